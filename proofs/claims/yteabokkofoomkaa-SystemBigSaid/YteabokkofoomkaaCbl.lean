import Derived.Test.YteabokkofoomkaaCao
import Derived.Test.YteabokkofoomkaaCbk
import Derived.Test.YteabokkofoomkaaCay
import Derived.Test.YteabokkofoomkaaCbh
set_option maxRecDepth 100000
namespace Go.Proofs.Yteabokkofoomkaa
open Go.RowKit Go.Shelf Go.Deep
structure MS (w W : World) (g V : Nat) (A : Option Addr) (n c : Nat) (B : Option Addr) (q d : Nat) : Prop where
 low : Below w.heap.size w W
 bp : BxP W g V A n c
 bq : BxP W (g + 1) V B q d
 rr : RP0 W (g + 2)
section
variable {w W W' : World} {g V : Nat} {A : Option Addr} {n c : Nat} {B : Option Addr} {q d : Nat}
theorem MS.next (h : MS w W g V A n c B q d) (hb : Below W.heap.size W W') : MS w W' g V A n c B q d :=
 ⟨h.low.trans (hb.mono h.low.size), h.bp.next hb, h.bq.next hb, h.rr.next hb⟩
theorem MS.under (h : MS w W g V A n c B q d) (hg : w.heap.size ≤ g) (hb : Below (g + 3) W W') : MS w W' g V A n c B q d :=
 ⟨h.low.trans (hb.mono (by omega)),
  ⟨Nat.lt_of_lt_of_le h.bp.lt hb.size, (hb.cell (p := ⟨g, 0, none⟩) (by show g < g + 3; omega)).trans h.bp.c0, (hb.cell (p := ⟨g, 1, none⟩) (by show g < g + 3; omega)).trans h.bp.c1⟩,
  ⟨Nat.lt_of_lt_of_le h.bq.lt hb.size, (hb.cell (p := ⟨g + 1, 0, none⟩) (by show g + 1 < g + 3; omega)).trans h.bq.c0, (hb.cell (p := ⟨g + 1, 1, none⟩) (by show g + 1 < g + 3; omega)).trans h.bq.c1⟩,
  ⟨⟨Nat.lt_of_lt_of_le h.rr.bx.lt hb.size, (hb.cell (p := ⟨g + 2, 0, none⟩) (by show g + 2 < g + 3; omega)).trans h.rr.bx.c0, (hb.cell (p := ⟨g + 2, 1, none⟩) (by show g + 2 < g + 3; omega)).trans h.rr.bx.c1⟩, fun o => (hb.frozen (p := ⟨g + 2, o, none⟩) (by show g + 2 < g + 3; omega)).trans (h.rr.fr o)⟩⟩
theorem MS.new (w : World) (V : Nat) (A : Option Addr) (n c : Nat) (B : Option Addr) (q d : Nat) : MS w (((w.alloc (boxP V A n c)).alloc (boxP V B q d)).alloc (boxP 0 none 0 0)) w.heap.size V A n c B q d := by
 have k0 := bel_alloc w (boxP V A n c)
 have k1 := bel_alloc (w.alloc (boxP V A n c)) (boxP V B q d)
 have k2 := bel_alloc ((w.alloc (boxP V A n c)).alloc (boxP V B q d)) (boxP 0 none 0 0)
 have e0 : (w.alloc (boxP V A n c)).heap.size = w.heap.size + 1 := by rw [World.size_alloc]
 have e1 : ((w.alloc (boxP V A n c)).alloc (boxP V B q d)).heap.size = w.heap.size + 2 := by rw [World.size_alloc, e0]
 refine ⟨(k0.trans (k1.mono k0.size)).trans (k2.mono (Nat.le_trans k0.size k1.size)), ((BxP.new w V A n c).next k1).next k2, ?_, ?_⟩
 · rw [← e0]; exact (BxP.new _ V B q d).next k2
 · rw [← e1]; exact RP0.new _
end
theorem timesZ_in {K K' V : Nat} {us : List Zt} {t : Zt} (h : TIn K V us) (he : ExpsIn t.es) (hl : t.es.length = V) (hz : Sz t.z K') (hs : ∀ u ∈ us, ∀ k, k < V → u.es.getD k 0 + t.es.getD k 0 ≤ 120) : TIn (K + K') V (timesZ us t) := by
 intro x hx
 unfold timesZ at hx
 split at hx
 · cases hx
 · obtain ⟨u, hu, rfl⟩ := List.mem_map.1 hx
   obtain ⟨h1, h2, h3⟩ := h u hu
   refine ⟨fun k hk => ?_, (addE_len _ _).trans h2, h3.mul hz⟩
   have hk2 : k < V := by have : (prodZ u t).es.length = V := (addE_len _ _).trans h2; omega
   show 0 ≤ (addE u.es t.es).getD k 0 ∧ (addE u.es t.es).getD k 0 ≤ 120
   rw [addE_at (by omega)]
   have a1 := h1 k (by omega)
   have a2 := he k (by omega)
   have a3 := hs u hu k hk2
   omega
def mulL (us vs : List Zt) : List Zt := vs.flatMap (timesZ us)
theorem mulL_len (us vs : List Zt) : ∀ j, ((vs.take j).flatMap (timesZ us)).length ≤ j * us.length := by
 intro j
 induction j with
 | zero => simp
 | succ j ih =>
   by_cases h : j < vs.length
   · rw [take_flat _ h, List.length_append]
     have := timesZ_len us vs[j]
     rw [Nat.succ_mul]; omega
   · rw [List.take_of_length_le (by omega), ← List.take_of_length_le (show vs.length ≤ j by omega)]
     rw [Nat.succ_mul]; omega
def Low (V : Nat) (us vs : List Zt) : Prop := ∀ u ∈ us, ∀ v ∈ vs, ∀ k, k < V → u.es.getD k 0 + v.es.getD k 0 ≤ 120
set_option maxHeartbeats 16000000 in
theorem refPMul_c (V Kw Kv : Nat) (A : Option Addr) (n c : Nat) (us : List Zt) (B : Option Addr) (q d : Nat) (vs : List Zt) (w : World) (h : RdT w A n (us.map trmOf)) (h' : RdT w B q (vs.map trmOf)) (hI : TIn Kw V us) (hI' : TIn Kv V vs) (hlo : Low V us vs) (hnc : n ≤ c) (hcm : c ≤ 9223372036854775807)
 (hnq : q * n ≤ 400000) (hn : n ≤ 400000) (hq : q ≤ 400000) (hK : Kw ≤ 400000000) (hK' : Kv ≤ 400000000) (hV : V ≤ 100000) (hV2 : 2 ≤ V) :
 Calls Try.prog 10 #[aggP (V : Int) A n c, aggP (V : Int) B q d] w (PolyR (V : Int) ((sortZ (mulL us vs)).map trmOf) w) := by
 have X := Lib.hid (MS.new w V A n c B q d)
 obtain ⟨g, hg⟩ : ∃ g, g = w.heap.size := ⟨_, rfl⟩
 have HG := Lib.hid hg
 have HI := Lib.hid (And.intro h h')
 have HL := Lib.hid (show us.length = n ∧ vs.length = q by have h1 := h.len; have h2 := h'.len; rw [List.length_map] at h1 h2; exact ⟨h1, h2⟩)
 have HTI := Lib.hid (And.intro hI (And.intro hI' hlo))
 have HN := Lib.hid (And.intro hnq (And.intro hn (And.intro hq (And.intro hnc hcm))))
 have HK := Lib.hid (And.intro (And.intro hK hK') (And.intro hV hV2))
 clear h h' hI hI' hlo hnq hn hq hK hK' hV hV2 hnc hcm
 go_enter Try.func10, Try.ntmps10
 go_upto_region 3 with (fail)
 generalize ((w.alloc (boxP V A n c)).alloc (boxP V B q d)).alloc (boxP 0 none 0 0) = W0 at X ⊢
 rw [← hg] at X ⊢
 clear hg
 have hq5 := HN.out.2.2.1
 go_loopw [5, 6] (fun v5 v6 wr => ∃ (j m cL : Nat) (L : Option Addr), v5 = .slice L m cL ∧ v6 = .int .i64 (j : Int) ∧ j ≤ q ∧ MS w wr g V A n c B q d ∧ OwX wr (g + 3) (g + 3) L m cL (((vs.take j).flatMap (timesZ us)).map trmOf)) (fun _ v _ => q - (intOf v).toNat)
 case atStart => exact ⟨0, 0, 0, none, rfl, rfl, Nat.zero_le _, X.out, OwX.nil _ _ _⟩
 case round =>
  obtain ⟨j, m, cL, L, rfl, rfl, hj, hx, ho⟩ := hrel
  clear X
  have X := Lib.hid hx
  have OX := Lib.hid ho
  have HM := Lib.hid (show m ≤ 400000 by
   have h1 := ho.len
   rw [List.length_map] at h1
   have h2 := mulL_len us vs j
   rw [h1, HL.out.1] at h2
   have h3 := Nat.mul_le_mul_right n hj
   have h4 := HN.out.1
   omega)
  clear hx ho
  have a1 := X.out.bq.c1
  by_cases hjq : j < q
  · have t1 : decide ((j : Int) < (q : Int)) = true := decide_eq_true (by omega)
    have t1n : decide (j < q) = true := decide_eq_true hjq
    have hjI : (j : Int) < (q : Int) := by omega
    obtain ⟨b, o, rfl, hlt, hc⟩ := HI.out.2.at_ (by omega)
    obtain ⟨A2, n2, c2, B2, m2, d2, hT⟩ := hc j hjq
    rw [trm_zt (by rw [HL.out.2]; exact hjq)] at hT
    have HU := Lib.hid (HTI.out.2.1 _ (ztAt_mem (ts := vs) (i := j) (by rw [HL.out.2]; exact hjq)))
    have hmV : m2 = V := by
     have h1 := hT.ri.len
     have h2 := HU.out.2.1
     have h3 : (trmOf (ztAt vs j)).es = (ztAt vs j).es := rfl
     rw [h3] at h1
     omega
    subst hmV
    have HTA := Lib.hid (show ∀ W, Below w.heap.size w W → TrmIs W b (o + j * 3) (trmOf (ztAt vs j)) A2 n2 c2 B2 m2 d2 from fun W hb => hT.below hlt hb)
    obtain ⟨t, ht⟩ : ∃ u, u = ztAt vs j := ⟨_, rfl⟩
    rw [← ht] at HTA HU
    have HTT := Lib.hid ht
    obtain ⟨sU, hsU⟩ : ∃ x, x = decide (t.z < 0) := ⟨_, rfl⟩
    have HSU := Lib.hid hsU
    clear hc hT ht hsU
    go_upto_region 5 with (fail)
    clear a1
    refine wp_region_held_drew (S := (fun w' => w'.cell? ⟨g, 0, none⟩ = some (.int .i64 (m2 : Int)) ∧ w'.cell? ⟨g, 1, none⟩ = some (.slice A n c) ∧ w'.cell? ⟨(g + 1), 1, none⟩ = some (.slice (some ⟨b, o, none⟩) q d) ∧ w'.cell? ⟨b, (o + j * 3), none⟩ = some (.bool sU) ∧ w'.cell? ⟨b, (o + j * 3 + 1), none⟩ = some (.slice A2 n2 c2) ∧ w'.cell? ⟨b, (o + j * 3 + 2), none⟩ = some (.slice B2 m2 d2))) (by kernel_rfl) (⟨cell_drq X.out.bp.c0, cell_drq X.out.bp.c1, cell_drq X.out.bq.c1, cell_drq (ea_c0 (HTA.out _ X.out.low) HSU.out), cell_drq (HTA.out _ X.out.low).c1, cell_drq (HTA.out _ X.out.low).c2⟩) (fun hHeld => ?_)
    replace X := Lib.hid (X.out.next (Below.refl wr.heap.size wr).drew)
    replace OX := Lib.hid (OX.out.keep (Below.refl wr.heap.size wr).drew)
    generalize wr.drew = D1 at X OX hHeld ⊢
    refine tkk 0 14 rfl rfl (by kernel_rfl) (fun _ _ _ _ h => h) (by rfl) (fun w h => by obtain ⟨h0, h1, h2, h3, h4, h5⟩ := h; go_simp; rfl) (by assumption) ?_
    simp only [set0, set1]
    refine tkk 1 15 rfl rfl (by kernel_rfl) (fun _ _ _ _ h => h) (by rfl) (fun w h => by obtain ⟨h0, h1, h2, h3, h4, h5⟩ := h; go_simp; rfl) (by assumption) ?_
    simp only [set0, set1]
    refine tkk 2 16 rfl rfl (by kernel_rfl) (fun _ _ _ _ h => h) (by rfl) (fun w h => by obtain ⟨h0, h1, h2, h3, h4, h5⟩ := h; go_simp; rfl) (by assumption) ?_
    simp only [set0, set1]
    refine tkk 3 17 rfl rfl (by kernel_rfl) (fun _ _ _ _ h => h) (by rfl) (fun w h => by obtain ⟨h0, h1, h2, h3, h4, h5⟩ := h; go_simp; rfl) (by assumption) ?_
    simp only [set0, set1]
    refine tkk 4 18 rfl rfl (by kernel_rfl) (fun _ _ _ _ h => h) (by rfl) (fun w h => by obtain ⟨h0, h1, h2, h3, h4, h5⟩ := h; go_simp; rfl) (by assumption) ?_
    simp only [set0, set1]
    refine tkk 5 19 rfl rfl (by kernel_rfl) (fun _ _ _ _ h => h) (by rfl) (fun w h => by obtain ⟨h0, h1, h2, h3, h4, h5⟩ := h; go_simp; rfl) (by assumption) ?_
    simp only [set0, set1]
    refine tkk 6 20 rfl rfl (by kernel_rfl) (fun _ _ _ _ h => h) (by rfl) (fun w h => by obtain ⟨h0, h1, h2, h3, h4, h5⟩ := h; go_simp; rfl) (by assumption) ?_
    simp only [set0, set1]
    refine wpAnyH_ready (rs := [7]) (by kernel_rfl) (by simp) ?_
    refine AllReadyH.cons rfl (fun K hK => ?_) AllReadyH.nil
    go_simp
    have iT := is_of_trm (HTA.out _ X.out.low)
    rw [← HSU.out] at iT
    refine (refTimes_c m2 Kw Kv A n c us t sU A2 n2 c2 B2 d2 D1 (HI.out.1.below X.out.low) HTI.out.1 (by have := HN.out.2.1; omega) HN.out.2.2.2.1 HN.out.2.2.2.2 iT (HTA.out _ X.out.low).ri (HTA.out _ X.out.low).md (HTA.out _ X.out.low).dm HU.out.1 HU.out.2.2 (by have := HK.out.1.1; omega) (by have := HK.out.1.2; omega) HK.out.2.1).mono ?_
    rintro e v2 ⟨L2, c3, rfl, hpx, hb⟩
    have PX := Lib.hid (hpx.low (lo' := g + 3) X.out.rr.bx.lt)
    clear iT hpx
    replace X := Lib.hid (X.out.next hb)
    replace OX := Lib.hid (OX.out.keep hb)
    clear hb hHeld
    refine hK.out _ _ (⟨X.out.bp.c0, X.out.bp.c1, X.out.bq.c1, (ea_c0 (HTA.out _ X.out.low) HSU.out), (HTA.out _ X.out.low).c1, (HTA.out _ X.out.low).c2⟩) (fun hHeld => ?_)
    clear hK K
    refine tkk 8 22 rfl rfl (by kernel_rfl) (fun _ _ _ _ h => h) (by rfl) (fun w h => by obtain ⟨h0, h1, h2, h3, h4, h5⟩ := h; go_simp; rfl) (by assumption) ?_
    simp only [set0, set1]
    refine wpAnyH_ready (rs := [9]) (by kernel_rfl) (by simp) ?_
    refine AllReadyH.cons rfl (fun K hK => ?_) AllReadyH.nil
    refine step_app_tms rfl (.tmp 14) (.tmp 22) rfl (g + 3) (g + 3) L m cL (((vs.take j).flatMap (timesZ us)).map trmOf) L2 (timesZ us t).length c3 ((timesZ us t).map trmOf) rfl rfl OX.out X.out.rr.bx.lt PX.out.rd (by have := HM.out; omega) (by have h1 := timesZ_len us t; rw [HL.out.1] at h1; have := HN.out.2.1; omega) ?_
    intro L3 c4 v3 h1 hb
    replace X := Lib.hid (X.out.under (by have := HG.out; omega) hb)
    rw [show ((vs.take j).flatMap (timesZ us)).map trmOf ++ (timesZ us t).map trmOf = ((vs.take (j + 1)).flatMap (timesZ us)).map trmOf by rw [take_flat _ (by rw [HL.out.2]; exact hjq), List.map_append, HTT.out]; unfold ztAt; rw [List.getD_eq_getElem?_getD, List.getElem?_eq_getElem (by rw [HL.out.2]; exact hjq)]; rfl] at h1
    replace OX := Lib.hid h1
    clear h1 hb hHeld PX
    refine hK.out _ _ (⟨X.out.bp.c0, X.out.bp.c1, X.out.bq.c1, (ea_c0 (HTA.out _ X.out.low) HSU.out), (HTA.out _ X.out.low).c1, (HTA.out _ X.out.low).c2⟩) (fun hHeld => ?_)
    clear hK K
    refine tkk 10 5 rfl rfl (by kernel_rfl) (fun _ _ _ _ h => h) (by rfl) (fun w h => by obtain ⟨h0, h1, h2, h3, h4, h5⟩ := h; go_simp; rfl) (by assumption) ?_
    clear hHeld
    refine wpAnyH_done (by kernel_rfl) ?_ _
    generalize m + (timesZ us t).length = m9 at OX ⊢
    go_wp2
    go_roundw
    case measure => simp [intOf]; omega
    case rel => exact ⟨j + 1, m9, c4, L3, rfl, by go_num, by omega, X.out, OX.out⟩
  · have e : j = q := by omega
    subst e
    have t1 : decide ((j : Int) < (j : Int)) = false := decide_eq_false (by omega)
    have t1n : decide (j < j) = false := decide_eq_false (by omega)
    have HF := Lib.hid (show (vs.take j).flatMap (timesZ us) = mulL us vs by rw [List.take_of_length_le (by rw [HL.out.2]; exact Nat.le_refl _)]; rfl)
    rw [HF.out] at OX
    have HIN := Lib.hid (show TIn (Kw + Kv) V (mulL us vs) from fun x hx => by
     obtain ⟨v, hv, hx⟩ := List.mem_flatMap.1 hx
     exact timesZ_in HTI.out.1 (HTI.out.2.1 v hv).1 (HTI.out.2.1 v hv).2.1 (HTI.out.2.1 v hv).2.2 (fun u hu k hk => HTI.out.2.2 u hu v hv k hk) x hx)
    have HLM := Lib.hid (show (mulL us vs).length = m by have := OX.out.len; rwa [List.length_map] at this)
    go_upto_region 6 with (fail)
    clear a1
    refine wp_region_tail (S := (fun w' => w'.cell? ⟨g, 0, none⟩ = some (.int .i64 (V : Int)))) 5 (by kernel_rfl) (by kernel_rfl) (by intro c a d v w h; cases d <;> exact h) (cell_drq X.out.bp.c0) (fun QT hT hP hHeld => ?_)
    simp only [List.extract_toArray, List.extract_eq_take_drop, List.drop_zero, Nat.sub_zero, List.take_succ_cons, List.take_zero]
    have HT := Lib.hid hT
    clear hT
    replace X := Lib.hid (X.out.next (Below.refl wr.heap.size wr).drew)
    replace OX := Lib.hid (OX.out.keep (Below.refl wr.heap.size wr).drew)
    generalize wr.drew = D4 at X OX hHeld ⊢
    refine tkk 0 24 rfl rfl (by kernel_rfl) (hP · · _) (by rfl) (fun w h0 => by go_simp; rfl) (by assumption) ?_
    simp only [set0, set1]
    refine tkk 1 25 rfl rfl (by kernel_rfl) (hP · · _) (by rfl) (fun w h0 => by go_simp; rfl) (by assumption) ?_
    simp only [set0, set1]
    refine tkk 2 26 rfl rfl (by kernel_rfl) (hP · · _) (by rfl) (fun w h0 => by go_simp; rfl) (by assumption) ?_
    simp only [set0, set1]
    refine wpAnyH_ready (rs := [3]) (by kernel_rfl) (by simp) ?_
    refine AllReadyH.cons rfl (fun K hK => ?_) AllReadyH.nil
    go_simp
    refine (sorted_c V (by have := HK.out.2.1; omega) m (Kw + Kv) L m cL (mulL us vs) D4 OX.out.rd.rdT (Nat.le_refl _) HIN.out (by have h1 := HK.out.1; have h2 := HM.out; omega) (by have := HM.out; omega) OX.out.cap.1 OX.out.cap.2.1).mono ?_
    rintro e v5 ⟨A3, c3, rfl, ho, hb⟩
    have O3 := Lib.hid ho
    replace X := Lib.hid (X.out.next hb)
    replace OX := Lib.hid (OX.out.keep hb)
    clear ho hb hHeld
    refine hK.out _ _ (X.out.bp.c0) (fun hHeld => ?_)
    clear hK K
    refine tkk 4 28 rfl rfl (by kernel_rfl) (hP · · _) (by rfl) (fun w h0 => by go_simp; rfl) (by assumption) ?_
    clear hHeld
    refine wpAnyH_done (by kernel_rfl) ?_ _
    refine HT.out _ _ ?_
    clear HT hP QT
    have r0 := X.out.rr.bx.c0
    have r1 := X.out.rr.bx.c1
    have f0 := X.out.rr.fr 0
    have f1 := X.out.rr.fr 1
    refine wpList_step fun K hK => ?_
    go_simp
    refine hK _ _ ?_
    clear hK K
    refine wpList_nil ?_
    have Q := X.out.rr.bx.put (V : Int) A3 (sortZ (mulL us vs)).length c3
    have q0 := Q.c0
    have q1 := Q.c1
    have HR := Lib.hid (show PolyR (V : Int) ((sortZ (mulL us vs)).map trmOf) w (.returned (aggP (V : Int) A3 (sortZ (mulL us vs)).length c3)) ((v5.setCell ⟨g + 2, 0, none⟩ (.int .i64 (V : Int))).setCell ⟨g + 2, 1, none⟩ (.slice A3 (sortZ (mulL us vs)).length c3)) from ⟨A3, (sortZ (mulL us vs)).length, c3, rfl, rdT_two X.out.rr.bx O3.out.rd (fun i hi => by
     have h1 := ((sortZ_in _ (Kw + Kv) (mulL us vs) (Nat.le_refl _) HIN.out) _ (ztAt_mem hi)).2.1
     rw [trm_zt hi]
     show (ztAt _ i).es.length ≠ 1
     rw [h1]
     have := HK.out.2.2; omega) _ _, O3.out.cap.1, O3.out.cap.2.1, below_store X.out.low (by have := HG.out; omega) _ _⟩)
    clear O3
    generalize (sortZ (mulL us vs)).length = mm at q0 q1 HR ⊢
    go_wp2
    refine bodyPost_ret (v := aggP (V : Int) A3 mm c3) (by simp [results, Try.results10, go_sem, q0, q1]) rfl ?_
    exact HR.out
set_option maxHeartbeats 16000000 in
theorem refPAdd_c (V Kw : Nat) (A : Option Addr) (n c : Nat) (us : List Zt) (B : Option Addr) (q d : Nat) (vs : List Zt) (w : World) (h : RdT w A n (us.map trmOf)) (h' : RdT w B q (vs.map trmOf)) (hI : TIn Kw V us) (hI' : TIn Kw V vs)
 (hnq : n + q ≤ 1000000) (hK : Kw ≤ 400000000) (hV : V ≤ 100000) (hV2 : 2 ≤ V) :
 Calls Try.prog 15 #[aggP (V : Int) A n c, aggP (V : Int) B q d] w (PolyR (V : Int) ((mergeZ us vs).map trmOf) w) := by
 have X := Lib.hid (MS.new w V A n c B q d)
 obtain ⟨g, hg⟩ : ∃ g, g = w.heap.size := ⟨_, rfl⟩
 have HG := Lib.hid hg
 have HI := Lib.hid (And.intro h h')
 have HTI := Lib.hid (And.intro hI hI')
 have HN := Lib.hid hnq
 have HK := Lib.hid (And.intro hK (And.intro hV hV2))
 clear h h' hI hI' hnq hK hV hV2
 go_enter Try.func15, Try.ntmps15
 go_upto_region 1 with (fail)
 generalize ((w.alloc (boxP V A n c)).alloc (boxP V B q d)).alloc (boxP 0 none 0 0) = W0 at X ⊢
 rw [← hg] at X ⊢
 clear hg
 refine wp_region_tail (S := (fun w' => w'.cell? ⟨g, 0, none⟩ = some (.int .i64 (V : Int)) ∧ w'.cell? ⟨g, 1, none⟩ = some (.slice A n c) ∧ w'.cell? ⟨(g + 1), 1, none⟩ = some (.slice B q d))) 8 (by kernel_rfl) (by kernel_rfl) (by intro c a d v w h; cases d <;> exact h) (⟨cell_drq X.out.bp.c0, cell_drq X.out.bp.c1, cell_drq X.out.bq.c1⟩) (fun QT hT hP hHeld => ?_)
 simp only [List.extract_toArray, List.extract_eq_take_drop, List.drop_zero, Nat.sub_zero, List.take_succ_cons, List.take_zero]
 have HT := Lib.hid hT
 clear hT
 replace X := Lib.hid (X.out.next (Below.refl W0.heap.size W0).drew)
 generalize W0.drew = D6 at X hHeld ⊢
 refine tkk 0 5 rfl rfl (by kernel_rfl) (hP · · _) (by rfl) (fun w h => by obtain ⟨h0, h1, h2⟩ := h; go_simp; rfl) (by assumption) ?_
 simp only [set0, set1]
 refine tkk 1 6 rfl rfl (by kernel_rfl) (hP · · _) (by rfl) (fun w h => by obtain ⟨h0, h1, h2⟩ := h; go_simp; rfl) (by assumption) ?_
 simp only [set0, set1]
 refine tkk 2 7 rfl rfl (by kernel_rfl) (hP · · _) (by rfl) (fun w h => by obtain ⟨h0, h1, h2⟩ := h; go_simp; rfl) (by assumption) ?_
 simp only [set0, set1]
 refine tkk 3 8 rfl rfl (by kernel_rfl) (hP · · _) (by rfl) (fun w h => by obtain ⟨h0, h1, h2⟩ := h; go_simp; rfl) (by assumption) ?_
 simp only [set0, set1]
 refine tkk 4 9 rfl rfl (by kernel_rfl) (hP · · _) (by rfl) (fun w h => by obtain ⟨h0, h1, h2⟩ := h; go_simp; rfl) (by assumption) ?_
 simp only [set0, set1]
 refine tkk 5 10 rfl rfl (by kernel_rfl) (hP · · _) (by rfl) (fun w h => by obtain ⟨h0, h1, h2⟩ := h; go_simp; rfl) (by assumption) ?_
 simp only [set0, set1]
 refine wpAnyH_ready (rs := [6]) (by kernel_rfl) (by simp) ?_
 refine AllReadyH.cons rfl (fun K hK => ?_) AllReadyH.nil
 go_simp
 refine (merged_c Kw V A n c us B q d vs D6 (HI.out.1.below X.out.low) (HI.out.2.below X.out.low) (HTI.out.1.min HTI.out.2) (by have := HK.out.1; omega) (by have := HK.out.2.1; omega) HN.out).mono ?_
 rintro e v7 ⟨A3, c3, rfl, ho, hb⟩
 have O3 := Lib.hid ho
 replace X := Lib.hid (X.out.next hb)
 clear ho hb hHeld
 refine hK.out _ _ (⟨X.out.bp.c0, X.out.bp.c1, X.out.bq.c1⟩) (fun hHeld => ?_)
 clear hK K
 refine tkk 7 12 rfl rfl (by kernel_rfl) (hP · · _) (by rfl) (fun w h => by obtain ⟨h0, h1, h2⟩ := h; go_simp; rfl) (by assumption) ?_
 clear hHeld
 refine wpAnyH_done (by kernel_rfl) ?_ _
 refine HT.out _ _ ?_
 clear HT hP QT
 have r0 := X.out.rr.bx.c0
 have r1 := X.out.rr.bx.c1
 have f0 := X.out.rr.fr 0
 have f1 := X.out.rr.fr 1
 refine wpList_step fun K hK => ?_
 go_simp
 refine hK _ _ ?_
 clear hK K
 refine wpList_nil ?_
 have Q := X.out.rr.bx.put (V : Int) A3 (mergeZ us vs).length c3
 have q0 := Q.c0
 have q1 := Q.c1
 have HR := Lib.hid (show PolyR (V : Int) ((mergeZ us vs).map trmOf) w (.returned (aggP (V : Int) A3 (mergeZ us vs).length c3)) ((v7.setCell ⟨g + 2, 0, none⟩ (.int .i64 (V : Int))).setCell ⟨g + 2, 1, none⟩ (.slice A3 (mergeZ us vs).length c3)) from ⟨A3, (mergeZ us vs).length, c3, rfl, rdT_two X.out.rr.bx O3.out.rd (fun i hi => by
  have h1 := ((mergeZ_in us vs HTI.out.1 HTI.out.2) _ (ztAt_mem hi)).2.1
  rw [trm_zt hi]
  show (ztAt _ i).es.length ≠ 1
  rw [h1]
  have := HK.out.2.2; omega) _ _, O3.out.cap.1, O3.out.cap.2.1, below_store X.out.low (by have := HG.out; omega) _ _⟩)
 clear O3
 generalize (mergeZ us vs).length = mm at q0 q1 HR ⊢
 go_wp2
 refine bodyPost_ret (v := aggP (V : Int) A3 mm c3) (by simp [results, Try.results15, go_sem, q0, q1]) rfl ?_
 exact HR.out
def nb (xs ys : List Nat) (q : Int) : List Nmr := [⟨false, xs⟩, ⟨false, ys⟩, nmOf q]
theorem small_words {q : Int} (h0 : 0 ≤ q) (h1 : q < 4294967296) : validB (decide (q < 0)) (words q.natAbs) = true := by
 refine valid_words (words_len_le.2 (Nat.lt_of_lt_of_le (show q.natAbs < pw 1 by rw [pw_one]; omega) (pw_le (by omega)))) (fun _ => decide_eq_false (by omega))
theorem nb_all {xs ys : List Nat} {q : Int} (hx : validB false xs = true) (hy : validB false ys = true) (h0 : 0 ≤ q) (h1 : q < 4294967296) : allB (nb xs ys q) = true := by
 refine decide_eq_true fun i hi => ?_
 have h2 : i < 3 := hi
 match i, h2 with
 | 0, _ => exact hx
 | 1, _ => exact hy
 | 2, _ => exact small_words h0 h1
theorem nb_nat {xs ys : List Nat} {q : Int} (h0 : 0 ≤ q) : natB (nb xs ys q) = true := by
 refine decide_eq_true fun i hi => ?_
 have h2 : i < 3 := hi
 match i, h2 with
 | 0, _ => rfl
 | 1, _ => rfl
 | 2, _ => exact decide_eq_false (by omega)
theorem nmZ_of (z : Int) : nmZ (nmOf z) = z := by
 unfold nmZ nmOf
 rw [val_words, sgn_self]
theorem trZ_lit (z : Int) (es : List Int) : trZ (trmOf ⟨z, es⟩) = z := by
 unfold trZ trmOf
 rw [val_words, sgn_self]
theorem nb_z (xs ys : List Nat) (q : Int) : nmZ (nmAt (nb xs ys q) 0) = (val xs : Int) ∧ nmZ (nmAt (nb xs ys q) 1) = (val ys : Int) ∧ nmZ (nmAt (nb xs ys q) 2) = q :=
 ⟨rfl, rfl, nmZ_of q⟩
theorem term3 (z : Int) (e0 e1 e2 : Int) (xs ys : List Nat) (q : Int) : tVal (trmOf ⟨z, [e0, e1, e2]⟩) (nb xs ys q) = z * ((val xs : Int) ^ e0.toNat * (val ys : Int) ^ e1.toNat * q ^ e2.toNat) := by
 have h : prodI [e0, e1, e2] (nb xs ys q) 3 = 1 * nmZ (nmAt (nb xs ys q) 0) ^ e0.toNat * nmZ (nmAt (nb xs ys q) 1) ^ e1.toNat * nmZ (nmAt (nb xs ys q) 2) ^ e2.toNat := rfl
 have e : tVal (trmOf ⟨z, [e0, e1, e2]⟩) (nb xs ys q) = trZ (trmOf ⟨z, [e0, e1, e2]⟩) * prodI [e0, e1, e2] (nb xs ys q) 3 := rfl
 rw [e, h, trZ_lit, (nb_z xs ys q).1, (nb_z xs ys q).2.1, (nb_z xs ys q).2.2, Int.one_mul]
def pX : List Trm := [trmOf ⟨1, [1, 0, 0]⟩]
def pY : List Trm := [trmOf ⟨1, [0, 1, 0]⟩]
def pXY : List Trm := [trmOf ⟨1, [1, 1, 0]⟩]
def pQ : List Trm := [trmOf ⟨1, [0, 0, 1]⟩, trmOf ⟨200000, [0, 0, 0]⟩]
theorem mul_is : (sortZ (mulL [⟨1, unitE 3 0⟩] [⟨1, unitE 3 1⟩])).map trmOf = pXY := by
 have e : mulL [⟨1, unitE 3 0⟩] [⟨1, unitE 3 1⟩] = [⟨1, [1, 1, 0]⟩] := by
  unfold mulL timesZ
  simp [prodZ, addE, unitE]
  decide
 rw [e, sort_one, if_neg (by decide)]
 rfl
theorem add_is : (mergeZ [⟨1, unitE 3 2⟩] (constZ 200000 3)).map trmOf = pQ := by
 have e : constZ 200000 3 = [⟨200000, [0, 0, 0]⟩] := by unfold constZ; rw [if_neg (by decide)]; rfl
 have o : ordT (unitE 3 2) [0, 0, 0] = 1 := by decide
 rw [e, mergeZ, if_pos o, mergeZ, mergeZ, consZ, if_neg (by decide), consZ, if_neg (by decide)]
 rfl
def prodL : List Lnk := [⟨0, [0, 1, 2], [⟨3, pXY⟩]⟩]
def bigL (k : Int) : List Lnk := [⟨k, [0, 1, 2], [⟨3, pX⟩, ⟨3, pQ⟩, ⟨3, pY⟩]⟩]
theorem prodL_valid : validS 3 prodL = true := by kernel_rfl
theorem bigL_valid1 : validS 3 (bigL 1) = true := by kernel_rfl
theorem bigL_valid2 : validS 3 (bigL 2) = true := by kernel_rfl
theorem val_X (xs ys : List Nat) (q : Int) : pVal pX (nb xs ys q) = (val xs : Int) := by
 show 0 + tVal (trmOf ⟨1, [1, 0, 0]⟩) (nb xs ys q) = _
 rw [term3]
 show 0 + 1 * ((val xs : Int) ^ 1 * (val ys : Int) ^ 0 * q ^ 0) = _
 simp [Int.pow_one]
theorem val_Y (xs ys : List Nat) (q : Int) : pVal pY (nb xs ys q) = (val ys : Int) := by
 show 0 + tVal (trmOf ⟨1, [0, 1, 0]⟩) (nb xs ys q) = _
 rw [term3]
 show 0 + 1 * ((val xs : Int) ^ 0 * (val ys : Int) ^ 1 * q ^ 0) = _
 simp [Int.pow_one]
theorem tv_XY (xs ys : List Nat) (q : Int) : tVal (trmOf ⟨1, [1, 1, 0]⟩) (nb xs ys q) = (val xs : Int) * (val ys : Int) := by
 rw [term3]
 show 1 * ((val xs : Int) ^ 1 * (val ys : Int) ^ 1 * q ^ 0) = _
 simp [Int.pow_one]
theorem val_XY (xs ys : List Nat) (q : Int) : pVal pXY (nb xs ys q) = (val xs : Int) * (val ys : Int) := by
 show 0 + tVal (trmOf ⟨1, [1, 1, 0]⟩) (nb xs ys q) = _
 rw [tv_XY, Int.zero_add]
theorem val_Q (xs ys : List Nat) (q : Int) : pVal pQ (nb xs ys q) = q + 200000 := by
 show 0 + tVal (trmOf ⟨1, [0, 0, 1]⟩) (nb xs ys q) + tVal (trmOf ⟨200000, [0, 0, 0]⟩) (nb xs ys q) = _
 rw [term3, term3]
 show 0 + 1 * ((val xs : Int) ^ 0 * (val ys : Int) ^ 0 * q ^ 1) + 200000 * ((val xs : Int) ^ 0 * (val ys : Int) ^ 0 * q ^ 0) = _
 simp [Int.pow_one]
theorem prodL_all (xs ys : List Nat) (q : Int) : ∀ i, i < prodL.length → ∀ j, j < (lnkAt prodL i).ps.length → allV (plyAt (lnkAt prodL i).ps j).ts (ownOf (lnkAt prodL i).vs (nb xs ys q)) (plyAt (lnkAt prodL i).ps j).ts.length ≤ val xs * val ys := by
 intro i hi j hj
 obtain rfl : i = 0 := by have h : i < 1 := hi; omega
 obtain rfl : j = 0 := by have h : j < 1 := hj; omega
 show 0 + (tVal (trmOf ⟨1, [1, 1, 0]⟩) (nb xs ys q)).natAbs ≤ _
 rw [tv_XY, Int.natAbs_mul, Int.natAbs_natCast, Int.natAbs_natCast, Nat.zero_add]
 exact Nat.le_refl _
theorem prodL_ok {xs ys : List Nat} {q : Int} (h : Ok1 prodL (nb xs ys q)) : val xs * val ys < pw 4096 := by
 have h1 := h (by decide) 0 (by decide)
 have e : pVal (plyAt (lnkAt prodL 0).ps 0).ts (ownOf (lnkAt prodL 0).vs (nb xs ys q)) = (val xs : Int) * (val ys : Int) := val_XY xs ys q
 rw [e] at h1
 unfold Sz at h1
 rwa [Int.natAbs_mul, Int.natAbs_natCast, Int.natAbs_natCast] at h1
theorem prodL_holds (xs ys : List Nat) (q : Int) : holdsB prodL (nb xs ys q) = decide (val xs = 0 ∨ val ys = 0) := by
 refine decide_eq_decide.2 ?_
 have e : linkB (lnkAt prodL 0) (nb xs ys q) = decide ((val xs : Int) * (val ys : Int) = 0) := by
  show linkZ 0 (pVal pXY (nb xs ys q)) _ _ = _
  rw [val_XY]
  rfl
 constructor
 · intro h
   have h1 := h 0 (by decide)
   rw [e] at h1
   have h2 := Int.mul_eq_zero.1 (of_decide_eq_true h1)
   omega
 · intro h i hi
   obtain rfl : i = 0 := by have h : i < 1 := hi; omega
   rw [e]
   refine decide_eq_true (Int.mul_eq_zero.2 ?_)
   omega
theorem bigL_all {xs ys : List Nat} {q : Int} (k : Int) (hx : val xs < pw 4096) (hy : val ys < pw 4096) (h0 : 0 ≤ q) (h1 : q < 4294967296) : ∀ i, i < (bigL k).length → ∀ j, j < (lnkAt (bigL k) i).ps.length → allV (plyAt (lnkAt (bigL k) i).ps j).ts (ownOf (lnkAt (bigL k) i).vs (nb xs ys q)) (plyAt (lnkAt (bigL k) i).ps j).ts.length ≤ pw 4096 - 1 := by
 intro i hi j hj
 obtain rfl : i = 0 := by have h : i < 1 := hi; omega
 have h2 : j < 3 := hj
 have hp : 8589934592 ≤ pw 4096 := Nat.le_trans (show 8589934592 ≤ pw 2 by unfold pw; decide) (pw_le (by omega))
 match j, h2 with
 | 0, _ =>
   show 0 + (tVal (trmOf ⟨1, [1, 0, 0]⟩) (nb xs ys q)).natAbs ≤ _
   have e := val_X xs ys q
   have e2 : pVal pX (nb xs ys q) = 0 + tVal (trmOf ⟨1, [1, 0, 0]⟩) (nb xs ys q) := rfl
   rw [e2, Int.zero_add] at e
   rw [e]
   omega
 | 1, _ =>
   show 0 + (tVal (trmOf ⟨1, [0, 0, 1]⟩) (nb xs ys q)).natAbs + (tVal (trmOf ⟨200000, [0, 0, 0]⟩) (nb xs ys q)).natAbs ≤ _
   have e1 : tVal (trmOf ⟨1, [0, 0, 1]⟩) (nb xs ys q) = q := by
    rw [term3]
    show 1 * ((val xs : Int) ^ 0 * (val ys : Int) ^ 0 * q ^ 1) = _
    simp [Int.pow_one]
   have e2 : tVal (trmOf ⟨200000, [0, 0, 0]⟩) (nb xs ys q) = 200000 := by
    rw [term3]
    show 200000 * ((val xs : Int) ^ 0 * (val ys : Int) ^ 0 * q ^ 0) = _
    simp
   rw [e1, e2]
   omega
 | 2, _ =>
   show 0 + (tVal (trmOf ⟨1, [0, 1, 0]⟩) (nb xs ys q)).natAbs ≤ _
   have e := val_Y xs ys q
   have e2 : pVal pY (nb xs ys q) = 0 + tVal (trmOf ⟨1, [0, 1, 0]⟩) (nb xs ys q) := rfl
   rw [e2, Int.zero_add] at e
   rw [e]
   omega
theorem pw_exp9 {k m : Nat} (h : 32 * k ≤ m) : pw k ≤ 2 ^ m := by
 rw [pw_two]
 exact Nat.pow_le_pow_right (by decide) h
theorem pw_exp {m : Nat} (h : 131072 ≤ m) : pw 4096 ≤ 2 ^ m := pw_exp9 (Nat.le_trans (by decide) h)
theorem psi_big9 {a c q : Int} (ha : 2 ≤ a) (h0 : 0 ≤ q) (hc : c.natAbs < pw 4096) : psi a (q + 200000).toNat ≠ c := by
 intro e
 have h1 := psi_dn ha (b := 1) (by omega) (q.toNat + 199999)
 rw [show q.toNat + 199999 + 1 = (q + 200000).toNat by omega, e] at h1
 exact absurd (Nat.lt_of_lt_of_le hc (Nat.le_trans (pw_exp (by omega)) h1)) (Nat.lt_irrefl _)
theorem pow_big9 {a c q : Int} (ha : 2 ≤ a) (h0 : 0 ≤ q) (hc : c.natAbs < pw 4096) : a ^ (q + 200000).toNat ≠ c := by
 intro e
 have h1 : 2 ^ (q + 200000).toNat ≤ (a ^ (q + 200000).toNat).natAbs := by
  rw [Int.natAbs_pow]
  exact Nat.pow_le_pow_left (by omega) _
 rw [e] at h1
 exact absurd (Nat.lt_of_lt_of_le hc (Nat.le_trans (pw_exp (by omega)) h1)) (Nat.lt_irrefl _)
theorem bigL_holds1 {xs ys : List Nat} {q : Int} (hy : val ys < pw 4096) (h0 : 0 ≤ q) : holdsB (bigL 1) (nb xs ys q) = false := by
 refine decide_eq_false fun h => ?_
 have h1 := h 0 (by decide)
 have e : linkB (lnkAt (bigL 1) 0) (nb xs ys q) = linkZ 1 (pVal pX (nb xs ys q)) (pVal pQ (nb xs ys q)) (pVal pY (nb xs ys q)) := rfl
 rw [e, val_X, val_Q, val_Y] at h1
 unfold linkZ at h1
 rw [if_pos rfl] at h1
 obtain ⟨h2, -, h3⟩ := of_decide_eq_true h1
 exact psi_big9 h2 h0 (by rw [Int.natAbs_natCast]; exact hy) h3
theorem bigL_holds2 {xs ys : List Nat} {q : Int} (hy : val ys < pw 4096) (h0 : 0 ≤ q) : holdsB (bigL 2) (nb xs ys q) = decide (val xs = 1 ∧ val ys = 1) := by
 refine decide_eq_decide.2 ?_
 have e : linkB (lnkAt (bigL 2) 0) (nb xs ys q) = linkZ 2 (pVal pX (nb xs ys q)) (pVal pQ (nb xs ys q)) (pVal pY (nb xs ys q)) := rfl
 rw [val_X, val_Q, val_Y] at e
 unfold linkZ at e
 rw [if_neg (by decide), if_pos rfl] at e
 constructor
 · intro h
   have h1 := h 0 (by decide)
   rw [e] at h1
   obtain ⟨h2, -, h3⟩ := of_decide_eq_true h1
   by_cases q1 : 2 ≤ (val xs : Int)
   · exact absurd h3 (pow_big9 q1 h0 (by rw [Int.natAbs_natCast]; exact hy))
   · have q2 : (val xs : Int) = 1 := by omega
     rw [q2, Int.one_pow] at h3
     omega
 · rintro ⟨h1, h2⟩ i hi
   obtain rfl : i = 0 := by have h : i < 1 := hi; omega
   rw [e, h1, h2]
   refine decide_eq_true ⟨by decide, by omega, ?_⟩
   exact Int.one_pow
end Go.Proofs.Yteabokkofoomkaa

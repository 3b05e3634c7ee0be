/- the reference's Step -/
import Derived.Test.YthjdnidapbhdlaaDoorHm
set_option maxRecDepth 100000
namespace Go.Proofs.YthjdnidapbhdlaaDoor
open Go.RowKit
/-- an instruction's variable -/
structure BxI (W : World) (g : Nat) (x : Ins) : Prop where
  lt : g < W.heap.size
  c0 : W.cell? ⟨g, 0, none⟩ = some (.int .i64 x.op)
  c1 : W.cell? ⟨g, 1, none⟩ = some (.int .i64 x.reg)
  c2 : W.cell? ⟨g, 2, none⟩ = some (.int .i64 x.nx)
  c3 : W.cell? ⟨g, 3, none⟩ = some (.int .i64 x.zr)
  fr : ∀ i, W.frozen? ⟨g, i, none⟩ = false
section
variable {W W' : World} {g : Nat} {x : Ins}
theorem BxI.next (h : BxI W g x) (hb : Below W.heap.size W W') : BxI W' g x :=
  ⟨Nat.lt_of_lt_of_le h.lt hb.size, (hb.cell (p := ⟨g, 0, none⟩) h.lt).trans h.c0, (hb.cell (p := ⟨g, 1, none⟩) h.lt).trans h.c1, (hb.cell (p := ⟨g, 2, none⟩) h.lt).trans h.c2, (hb.cell (p := ⟨g, 3, none⟩) h.lt).trans h.c3, fun i => (hb.frozen (p := ⟨g, i, none⟩) h.lt).trans (h.fr i)⟩
theorem BxI.new (W : World) (x : Ins) : BxI (W.alloc (.cells #[.int .i64 x.op, .int .i64 x.reg, .int .i64 x.nx, .int .i64 x.zr] 70)) W.heap.size x :=
  ⟨by simp, by go_simp, by go_simp, by go_simp, by go_simp, fun i => by go_simp⟩
theorem BxI.off (h : BxI W g x) {p : Addr} (hp : p.block ≠ g) (u : Value) : BxI (W.setCell p u) g x :=
  have e : ∀ i, (⟨g, i, none⟩ : Addr) ≠ p := fun i he => hp (by rw [← he])
  ⟨by rw [World.size_setCell]; exact h.lt, (World.cell?_setCell_other W p ⟨g, 0, none⟩ u (by first | exact e 0 | exact fun he => e 0 he.symm)).trans h.c0, (World.cell?_setCell_other W p ⟨g, 1, none⟩ u (by first | exact e 1 | exact fun he => e 1 he.symm)).trans h.c1, (World.cell?_setCell_other W p ⟨g, 2, none⟩ u (by first | exact e 2 | exact fun he => e 2 he.symm)).trans h.c2, (World.cell?_setCell_other W p ⟨g, 3, none⟩ u (by first | exact e 3 | exact fun he => e 3 he.symm)).trans h.c3, fun i => by rw [World.frozen?_setCell]; exact h.fr i⟩
theorem BxI.put (h : BxI W g x) (y : Ins) : BxI ((((W.setCell ⟨g, 0, none⟩ (.int .i64 y.op)).setCell ⟨g, 1, none⟩ (.int .i64 y.reg)).setCell ⟨g, 2, none⟩ (.int .i64 y.nx)).setCell ⟨g, 3, none⟩ (.int .i64 y.zr)) g y := by
  have c0 := h.c0
  have c1 := h.c1
  have c2 := h.c2
  have c3 := h.c3
  exact ⟨by simp only [World.size_setCell]; exact h.lt, by go_simp, by go_simp, by go_simp, by go_simp, fun i => by simp only [World.frozen?_setCell]; exact h.fr i⟩
end
theorem Ow.off4 {W : World} {g g' : Nat} {zs : List Int} (h : Ow W g zs) (hne : g ≠ g') (a b c d : Value) : Ow ((((W.setCell ⟨g', 0, none⟩ a).setCell ⟨g', 1, none⟩ b).setCell ⟨g', 2, none⟩ c).setCell ⟨g', 3, none⟩ d) g zs :=
  (((h.far (p := ⟨g', 0, none⟩) hne a).far (p := ⟨g', 1, none⟩) hne b).far (p := ⟨g', 2, none⟩) hne c).far (p := ⟨g', 3, none⟩) hne d
theorem BxS.off4 {W : World} {g g' : Nat} {at_ : Int} {A : Option Addr} {n c : Nat} (h : BxS W g at_ A n c) (hne : g' ≠ g) (u v y z : Value) : BxS ((((W.setCell ⟨g', 0, none⟩ u).setCell ⟨g', 1, none⟩ v).setCell ⟨g', 2, none⟩ y).setCell ⟨g', 3, none⟩ z) g at_ A n c :=
  (((h.off (p := ⟨g', 0, none⟩) hne u).off (p := ⟨g', 1, none⟩) hne v).off (p := ⟨g', 2, none⟩) hne y).off (p := ⟨g', 3, none⟩) hne z

set_option maxHeartbeats 8000000 in
theorem refStep_c (R : Int) (A : Option Addr) (n c : Nat) (cs : List Ins) (at_ : Int) (B : Option Addr) (m d : Nat) (zs : List Int) (w : World) (h : RdC w A n cs) (h' : RdI w B m zs) (hf : FitsP R cs at_ zs) :
    Calls Tryd.prog 66 #[.agg #[.int .i64 R, .slice A n c], .agg #[.int .i64 at_, .slice B m d]] w (StP (stepM cs at_ zs).1 (stepM cs at_ zs).2.1 (stepM cs at_ zs).2.2 w) := by
  have E := Lib.hid (SE.start R A n c cs at_ B m d zs w h h')
  have HL := Lib.hid (And.intro h.len h'.len)

  have hb0 := hf.bounds
  have hl1 := h.len
  have hl2 := h'.len
  obtain ⟨k, rfl⟩ := Int.eq_ofNat_of_zero_le hf.at0
  have hk : k < n := by have := hf.at1; omega
  subst hl1 hl2
  have HP := Lib.hid hf
  have HLZ := Lib.hid (show zs.length ≤ 4 ∧ 0 < zs.length by omega)
  obtain ⟨b, p, rfl, hblt, hc⟩ := h.at_ (by omega)
  obtain ⟨x, hx⟩ : ∃ x, x = insAt cs k := ⟨_, rfl⟩
  have HX := Lib.hid hx
  have HST := Lib.hid (show stepM cs (k : Int) zs = if endM x zs = true then (0, [], 5) else if advOk x zs = true then (advAt x zs, advZs x zs, 0) else (0, [], 4) by rw [hx]; rfl)
  have HKN := Lib.hid hk
  have HCS := Lib.hid (fun (W : World) (hw : RdC W (some ⟨b, p, none⟩) cs.length cs) => show W.cell? ⟨b, p + k * 4, none⟩ = some (.int .i64 x.op) ∧ W.cell? ⟨b, p + k * 4 + 1, none⟩ = some (.int .i64 x.reg) ∧ W.cell? ⟨b, p + k * 4 + 2, none⟩ = some (.int .i64 x.nx) ∧ W.cell? ⟨b, p + k * 4 + 3, none⟩ = some (.int .i64 x.zr) by
    obtain ⟨b2, p2, e, _, hc2⟩ := hw.at_ (by omega)
    injection e with e
    injection e with e1 e2
    subst e1 e2
    rw [hx]
    exact hc2 k hk)
  have HVX := Lib.hid (show validI R cs.length (k : Int) x = true by
    have hv := hf.ins
    rw [Int.toNat_natCast] at hv
    rw [hx]; exact hv)
  clear h h' hf hb0 hx HL hc hblt
  go_enter Tryd.func66, Tryd.ntmps66
  go_upto_region 1 with (fail)
  generalize ((w.alloc (.cells #[.int .i64 R, .slice (some ⟨b, p, none⟩) cs.length c] 43)).alloc (.cells #[.int .i64 (k : Int), .slice B zs.length d] 46)).alloc (.cells #[.int .i64 0, .slice none 0 0] 46) = W0 at E ⊢
  generalize w.heap.size = g at E ⊢
  have HGE := Lib.hid E.out.ms.ge
  have hk := HKN.out
  have hki : (k : Int) < (cs.length : Int) := by omega
  have HD := Lib.hid (Below.refl W0.heap.size W0)
  have E0 := E
  go_cut [6, 7] (fun v6 v7 W => ∃ gi gs gr cr, v6 = .pointer (some ⟨gi, 0, none⟩) ∧ v7 = .pointer (some ⟨gs, 0, none⟩) ∧ BxI W gi x ∧ BxS W gs (k : Int) (some ⟨gr, 0, none⟩) zs.length cr ∧ Ow W gr zs ∧ gr ≠ gi ∧ gr ≠ gs ∧ gi ≠ gs ∧ W0.heap.size ≤ gi ∧ W0.heap.size ≤ gs ∧ W0.heap.size ≤ gr ∧ zs.length ≤ cr ∧ cr ≤ 9223372036854775807 ∧ Below W0.heap.size W0 W)
  case first =>
    refine wp_region_tail (S := (fun w' => w'.cell? ⟨g, 1, none⟩ = some (.slice (some ⟨b, p, none⟩) cs.length c) ∧ w'.cell? ⟨g + 1, 0, none⟩ = some (.int .i64 (k : Int)) ∧ w'.cell? ⟨g + 1, 1, none⟩ = some (.slice B zs.length d) ∧ w'.cell? ⟨b, p + k * 4, none⟩ = some (.int .i64 x.op) ∧ w'.cell? ⟨b, p + k * 4 + 1, none⟩ = some (.int .i64 x.reg) ∧ w'.cell? ⟨b, p + k * 4 + 2, none⟩ = some (.int .i64 x.nx) ∧ w'.cell? ⟨b, p + k * 4 + 3, none⟩ = some (.int .i64 x.zr))) 10 (by kernel_rfl) (by kernel_rfl) (by intro c a d v w h; cases d <;> exact h) (⟨cell_dr E.out.ms.bm.c1, cell_dr E.out.ms.bs.c0, cell_dr E.out.ms.bs.c1, cell_dr (HCS.out _ E.out.ms.rc).1, cell_dr (HCS.out _ E.out.ms.rc).2.1, cell_dr (HCS.out _ E.out.ms.rc).2.2.1, cell_dr (HCS.out _ E.out.ms.rc).2.2.2⟩) (fun QT hT hP hHeld => ?_)
    simp only [List.extract_toArray, List.extract_eq_take_drop, List.drop_zero, Nat.sub_zero, List.take_succ_cons, List.take_zero]
    have HT := Lib.hid hT
    clear hT
    replace E := Lib.hid (E.out.next (Below.refl W0.heap.size W0).drew)
    replace HD := Lib.hid (HD.out.trans ((Below.refl W0.heap.size W0).drew.mono HD.out.size))
    generalize W0.drew = D1 at E HD hHeld ⊢
    refine take_on (i := 0) (d := (some 8)) (v := ?v1) rfl rfl (by kernel_rfl) (by kernel_rfl) (by kernel_rfl) (fun c a w h => hP c a _ _ w h) (by rfl) ?h1 (by assumption) ?r1
    case h1 => intro w hSw; obtain ⟨h0, h1, h2, h3, h4, h5, h6⟩ := hSw; go_simp; rfl
    simp only [Act.put, List.setIfInBounds_toArray, List.set_cons_zero, List.set_cons_succ]
    refine take_on (i := 1) (d := (some 9)) (v := ?v2) rfl rfl (by kernel_rfl) (by kernel_rfl) (by kernel_rfl) (fun c a w h => hP c a _ _ w h) (by rfl) ?h2 (by assumption) ?r2
    case h2 => intro w hSw; obtain ⟨h0, h1, h2, h3, h4, h5, h6⟩ := hSw; go_simp; rfl
    simp only [Act.put, List.setIfInBounds_toArray, List.set_cons_zero, List.set_cons_succ]
    refine take_on (i := 2) (d := (some 10)) (v := ?v3) rfl rfl (by kernel_rfl) (by kernel_rfl) (by kernel_rfl) (fun c a w h => hP c a _ _ w h) (by rfl) ?h3 (by assumption) ?r3
    case h3 => intro w hSw; obtain ⟨h0, h1, h2, h3, h4, h5, h6⟩ := hSw; go_simp; rfl
    simp only [Act.put, List.setIfInBounds_toArray, List.set_cons_zero, List.set_cons_succ]
    refine take_on (i := 3) (d := (some 11)) (v := ?v4) rfl rfl (by kernel_rfl) (by kernel_rfl) (by kernel_rfl) (fun c a w h => hP c a _ _ w h) (by rfl) ?h4 (by assumption) ?r4
    case h4 => intro w hSw; obtain ⟨h0, h1, h2, h3, h4, h5, h6⟩ := hSw; go_simp; rfl
    simp only [Act.put, List.setIfInBounds_toArray, List.set_cons_zero, List.set_cons_succ]
    refine take_on (i := 4) (d := (some 12)) (v := ?v5) rfl rfl (by kernel_rfl) (by kernel_rfl) (by kernel_rfl) (fun c a w h => hP c a _ _ w h) (by rfl) ?h5 (by assumption) ?r5
    case h5 => intro w hSw; obtain ⟨h0, h1, h2, h3, h4, h5, h6⟩ := hSw; go_simp; rfl
    simp only [Act.put, List.setIfInBounds_toArray, List.set_cons_zero, List.set_cons_succ]
    refine take_on (i := 5) (d := (some 13)) (v := ?v6) rfl rfl (by kernel_rfl) (by kernel_rfl) (by kernel_rfl) (fun c a w h => hP c a _ _ w h) (by rfl) ?h6 (by assumption) ?r6
    case h6 => intro w hSw; obtain ⟨h0, h1, h2, h3, h4, h5, h6⟩ := hSw; go_simp; rfl
    simp only [Act.put, List.setIfInBounds_toArray, List.set_cons_zero, List.set_cons_succ]
    refine take_on (i := 6) (d := (some 14)) (v := ?v7) rfl rfl (by kernel_rfl) (by kernel_rfl) (by kernel_rfl) (fun c a w h => hP c a _ _ w h) (by rfl) ?h7 (by assumption) ?r7
    case h7 => intro w hSw; obtain ⟨h0, h1, h2, h3, h4, h5, h6⟩ := hSw; go_simp; rfl
    simp only [Act.put, List.setIfInBounds_toArray, List.set_cons_zero, List.set_cons_succ]
    refine wpAnyH_ready (rs := [7, 8, 9]) (by kernel_rfl) (by simp) ?_
    refine AllReadyH.cons rfl (fun K hK => ?_) ?_
    ·
      go_simp
      refine (copy_s (k : Int) B _ d zs D1 E.out.ms.ri HLZ.out.2 (by have := HLZ.out.1; omega)).mono ?_
      rintro e v2 ⟨gr, cr, rfl, h1, h2, h3, h4, hb⟩
      have O6 := Lib.hid h1
      have HCR := Lib.hid (And.intro h3 h4)
      have HGR := Lib.hid (Nat.le_trans HD.out.size h2)
      replace E := Lib.hid (E.out.next hb)
      replace HD := Lib.hid (HD.out.trans (hb.mono HD.out.size))
      clear hb hHeld h1 h2 h3 h4
      refine hK.out _ _ (⟨E.out.ms.bm.c1, E.out.ms.bs.c0, E.out.ms.bs.c1, (HCS.out _ E.out.ms.rc).1, (HCS.out _ E.out.ms.rc).2.1, (HCS.out _ E.out.ms.rc).2.2.1, (HCS.out _ E.out.ms.rc).2.2.2⟩) (fun hHeld => ?_)
      clear hK K
      refine wpAnyH_ready (rs := [8, 9]) (by kernel_rfl) (by simp) ?_
      refine AllReadyH.cons rfl (fun K hK => ?_) ?_
      ·
        go_simp
        have hb := bel_alloc v2 (.cells #[.int .i64 0, .int .i64 0, .int .i64 0, .int .i64 0] 70)
        have XI := Lib.hid (BxI.new v2 ⟨0, 0, 0, 0⟩ )
        have LO6 := Lib.hid (O6.out.lt)
        have hz : W0.heap.size ≤ v2.heap.size := HD.out.size
        replace E := Lib.hid (E.out.next hb)
        replace HD := Lib.hid (HD.out.trans (hb.mono HD.out.size))
        replace O6 := Lib.hid (O6.out.next hb)
        clear hb hHeld
        generalize v2.alloc (.cells #[.int .i64 0, .int .i64 0, .int .i64 0, .int .i64 0] 70) = Y3 at E HD O6 XI ⊢
        obtain ⟨gi, hgs⟩ : ∃ g, g = v2.heap.size := ⟨_, rfl⟩
        rw [← hgs] at XI hz ⊢
        have HXI := Lib.hid hz
        have MXIO6 := Lib.hid (show gr < gi by have := LO6.out; omega)
        clear hgs hz LO6
        refine hK.out _ _ (⟨E.out.ms.bm.c1, E.out.ms.bs.c0, E.out.ms.bs.c1, (HCS.out _ E.out.ms.rc).1, (HCS.out _ E.out.ms.rc).2.1, (HCS.out _ E.out.ms.rc).2.2.1, (HCS.out _ E.out.ms.rc).2.2.2⟩) (fun hHeld => ?_)
        clear hK K
        refine wpAnyH_ready (rs := [9]) (by kernel_rfl) (by simp) ?_
        refine AllReadyH.cons rfl (fun K hK => ?_) AllReadyH.nil
        go_simp
        have hb := bel_alloc Y3 (.cells #[.int .i64 0, .slice none 0 0] 46)
        have X6 := Lib.hid (BxS.new Y3 0 none 0 0 )
        have LO6 := Lib.hid (O6.out.lt)
        have LXI := Lib.hid (XI.out.lt)
        have hz : W0.heap.size ≤ Y3.heap.size := HD.out.size
        replace E := Lib.hid (E.out.next hb)
        replace HD := Lib.hid (HD.out.trans (hb.mono HD.out.size))
        replace O6 := Lib.hid (O6.out.next hb)
        replace XI := Lib.hid (XI.out.next hb)
        clear hb hHeld
        generalize Y3.alloc (.cells #[.int .i64 0, .slice none 0 0] 46) = Y4 at E HD O6 XI X6 ⊢
        obtain ⟨gs, hgs⟩ : ∃ g, g = Y3.heap.size := ⟨_, rfl⟩
        rw [← hgs] at X6 hz ⊢
        have HX6 := Lib.hid hz
        have MX6O6 := Lib.hid (show gr < gs by have := LO6.out; omega)
        have MX6XI := Lib.hid (show gi < gs by have := LXI.out; omega)
        clear hgs hz LO6 LXI
        refine hK.out _ _ (⟨E.out.ms.bm.c1, E.out.ms.bs.c0, E.out.ms.bs.c1, (HCS.out _ E.out.ms.rc).1, (HCS.out _ E.out.ms.rc).2.1, (HCS.out _ E.out.ms.rc).2.2.1, (HCS.out _ E.out.ms.rc).2.2.2⟩) (fun hHeld => ?_)
        clear hK K
        clear hHeld
        refine wpAnyH_done (by kernel_rfl) ?_ _
        refine HT.out _ _ ?_
        clear HT hP QT
        have N1 := Lib.hid (show gr ≠ gi by (try (have h0 := NXI.out)); (try (have h1 := MXIO6.out)); omega)
        have N2 := Lib.hid (show gr ≠ gs by (try (have h0 := NX6.out)); (try (have h1 := MX6O6.out)); omega)
        have N3 := Lib.hid (show gi ≠ gs by (try (have h0 := MXIX6.out)); (try (have h1 := MX6XI.out)); omega)
        have n3 := N3.out
        have i0 := XI.out.c0
        have i1 := XI.out.c1
        have i2 := XI.out.c2
        have i3 := XI.out.c3
        have j0 := XI.out.fr 0
        have j1 := XI.out.fr 1
        have j2 := XI.out.fr 2
        have j3 := XI.out.fr 3
        refine wpList_step fun K hK => ?_
        go_simp
        refine hK _ _ ?_
        clear hK K i0 j0 i1 j1 i2 j2 i3 j3
        have XI2 := Lib.hid (XI.out.put x)
        have X62 := Lib.hid (X6.out.off4 N3.out (.int .i64 x.op) (.int .i64 x.reg) (.int .i64 x.nx) (.int .i64 x.zr))
        have O62 := Lib.hid (O6.out.off4 N1.out (.int .i64 x.op) (.int .i64 x.reg) (.int .i64 x.nx) (.int .i64 x.zr))
        have B62 := Lib.hid (bel_set (bel_set (bel_set (bel_set HD.out (p := ⟨gi, 0, none⟩) HXI.out (.int .i64 x.op)) (p := ⟨gi, 1, none⟩) HXI.out (.int .i64 x.reg)) (p := ⟨gi, 2, none⟩) HXI.out (.int .i64 x.nx)) (p := ⟨gi, 3, none⟩) HXI.out (.int .i64 x.zr))
        generalize ((((Y4.setCell ⟨gi, 0, none⟩ (.int .i64 x.op)).setCell ⟨gi, 1, none⟩ (.int .i64 x.reg)).setCell ⟨gi, 2, none⟩ (.int .i64 x.nx)).setCell ⟨gi, 3, none⟩ (.int .i64 x.zr)) = W6 at XI2 X62 O62 B62 ⊢
        clear XI X6 O6 HD E
        have r0 := X62.out.c0
        have r1 := X62.out.c1
        have f0 := X62.out.f0
        have f1 := X62.out.f1
        refine wpList_step fun K hK => ?_
        go_simp
        refine hK _ _ ?_
        clear hK K r0 r1 f0 f1
        refine wpList_nil ?_
        go_wp2
        go_meet
        exact ⟨gi, gs, gr, cr, rfl, rfl, (XI2.out.off (p := ⟨gs, 0, none⟩) (fun e => N3.out e.symm) (.int .i64 (k : Int))).off (p := ⟨gs, 1, none⟩) (fun e => N3.out e.symm) (.slice (some ⟨gr, 0, none⟩) zs.length cr), X62.out.put (k : Int) (some ⟨gr, 0, none⟩) zs.length cr, (O62.out.far (p := ⟨gs, 0, none⟩) N2.out (.int .i64 (k : Int))).far (p := ⟨gs, 1, none⟩) N2.out (.slice (some ⟨gr, 0, none⟩) zs.length cr), N1.out, N2.out, N3.out, HXI.out, HX6.out, HGR.out, HCR.out.1, HCR.out.2, bel_set (bel_set B62.out (p := ⟨gs, 0, none⟩) HX6.out (.int .i64 (k : Int))) (p := ⟨gs, 1, none⟩) HX6.out (.slice (some ⟨gr, 0, none⟩) zs.length cr)⟩
      refine AllReadyH.cons rfl (fun K hK => ?_) ?_
      ·
        go_simp
        have hb := bel_alloc v2 (.cells #[.int .i64 0, .slice none 0 0] 46)
        have X6 := Lib.hid (BxS.new v2 0 none 0 0 )
        have LO6 := Lib.hid (O6.out.lt)
        have hz : W0.heap.size ≤ v2.heap.size := HD.out.size
        replace E := Lib.hid (E.out.next hb)
        replace HD := Lib.hid (HD.out.trans (hb.mono HD.out.size))
        replace O6 := Lib.hid (O6.out.next hb)
        clear hb hHeld
        generalize v2.alloc (.cells #[.int .i64 0, .slice none 0 0] 46) = Y5 at E HD O6 X6 ⊢
        obtain ⟨gs, hgs⟩ : ∃ g, g = v2.heap.size := ⟨_, rfl⟩
        rw [← hgs] at X6 hz ⊢
        have HX6 := Lib.hid hz
        have MX6O6 := Lib.hid (show gr < gs by have := LO6.out; omega)
        clear hgs hz LO6
        refine hK.out _ _ (⟨E.out.ms.bm.c1, E.out.ms.bs.c0, E.out.ms.bs.c1, (HCS.out _ E.out.ms.rc).1, (HCS.out _ E.out.ms.rc).2.1, (HCS.out _ E.out.ms.rc).2.2.1, (HCS.out _ E.out.ms.rc).2.2.2⟩) (fun hHeld => ?_)
        clear hK K
        refine wpAnyH_ready (rs := [8]) (by kernel_rfl) (by simp) ?_
        refine AllReadyH.cons rfl (fun K hK => ?_) AllReadyH.nil
        go_simp
        have hb := bel_alloc Y5 (.cells #[.int .i64 0, .int .i64 0, .int .i64 0, .int .i64 0] 70)
        have XI := Lib.hid (BxI.new Y5 ⟨0, 0, 0, 0⟩ )
        have LO6 := Lib.hid (O6.out.lt)
        have LX6 := Lib.hid (X6.out.lt)
        have hz : W0.heap.size ≤ Y5.heap.size := HD.out.size
        replace E := Lib.hid (E.out.next hb)
        replace HD := Lib.hid (HD.out.trans (hb.mono HD.out.size))
        replace O6 := Lib.hid (O6.out.next hb)
        replace X6 := Lib.hid (X6.out.next hb)
        clear hb hHeld
        generalize Y5.alloc (.cells #[.int .i64 0, .int .i64 0, .int .i64 0, .int .i64 0] 70) = Y6 at E HD O6 X6 XI ⊢
        obtain ⟨gi, hgs⟩ : ∃ g, g = Y5.heap.size := ⟨_, rfl⟩
        rw [← hgs] at XI hz ⊢
        have HXI := Lib.hid hz
        have MXIO6 := Lib.hid (show gr < gi by have := LO6.out; omega)
        have MXIX6 := Lib.hid (show gs < gi by have := LX6.out; omega)
        clear hgs hz LO6 LX6
        refine hK.out _ _ (⟨E.out.ms.bm.c1, E.out.ms.bs.c0, E.out.ms.bs.c1, (HCS.out _ E.out.ms.rc).1, (HCS.out _ E.out.ms.rc).2.1, (HCS.out _ E.out.ms.rc).2.2.1, (HCS.out _ E.out.ms.rc).2.2.2⟩) (fun hHeld => ?_)
        clear hK K
        clear hHeld
        refine wpAnyH_done (by kernel_rfl) ?_ _
        refine HT.out _ _ ?_
        clear HT hP QT
        have N1 := Lib.hid (show gr ≠ gi by (try (have h0 := NXI.out)); (try (have h1 := MXIO6.out)); omega)
        have N2 := Lib.hid (show gr ≠ gs by (try (have h0 := NX6.out)); (try (have h1 := MX6O6.out)); omega)
        have N3 := Lib.hid (show gi ≠ gs by (try (have h0 := MXIX6.out)); (try (have h1 := MX6XI.out)); omega)
        have n3 := N3.out
        have i0 := XI.out.c0
        have i1 := XI.out.c1
        have i2 := XI.out.c2
        have i3 := XI.out.c3
        have j0 := XI.out.fr 0
        have j1 := XI.out.fr 1
        have j2 := XI.out.fr 2
        have j3 := XI.out.fr 3
        refine wpList_step fun K hK => ?_
        go_simp
        refine hK _ _ ?_
        clear hK K i0 j0 i1 j1 i2 j2 i3 j3
        have XI2 := Lib.hid (XI.out.put x)
        have X62 := Lib.hid (X6.out.off4 N3.out (.int .i64 x.op) (.int .i64 x.reg) (.int .i64 x.nx) (.int .i64 x.zr))
        have O62 := Lib.hid (O6.out.off4 N1.out (.int .i64 x.op) (.int .i64 x.reg) (.int .i64 x.nx) (.int .i64 x.zr))
        have B62 := Lib.hid (bel_set (bel_set (bel_set (bel_set HD.out (p := ⟨gi, 0, none⟩) HXI.out (.int .i64 x.op)) (p := ⟨gi, 1, none⟩) HXI.out (.int .i64 x.reg)) (p := ⟨gi, 2, none⟩) HXI.out (.int .i64 x.nx)) (p := ⟨gi, 3, none⟩) HXI.out (.int .i64 x.zr))
        generalize ((((Y6.setCell ⟨gi, 0, none⟩ (.int .i64 x.op)).setCell ⟨gi, 1, none⟩ (.int .i64 x.reg)).setCell ⟨gi, 2, none⟩ (.int .i64 x.nx)).setCell ⟨gi, 3, none⟩ (.int .i64 x.zr)) = W6 at XI2 X62 O62 B62 ⊢
        clear XI X6 O6 HD E
        have r0 := X62.out.c0
        have r1 := X62.out.c1
        have f0 := X62.out.f0
        have f1 := X62.out.f1
        refine wpList_step fun K hK => ?_
        go_simp
        refine hK _ _ ?_
        clear hK K r0 r1 f0 f1
        refine wpList_nil ?_
        go_wp2
        go_meet
        exact ⟨gi, gs, gr, cr, rfl, rfl, (XI2.out.off (p := ⟨gs, 0, none⟩) (fun e => N3.out e.symm) (.int .i64 (k : Int))).off (p := ⟨gs, 1, none⟩) (fun e => N3.out e.symm) (.slice (some ⟨gr, 0, none⟩) zs.length cr), X62.out.put (k : Int) (some ⟨gr, 0, none⟩) zs.length cr, (O62.out.far (p := ⟨gs, 0, none⟩) N2.out (.int .i64 (k : Int))).far (p := ⟨gs, 1, none⟩) N2.out (.slice (some ⟨gr, 0, none⟩) zs.length cr), N1.out, N2.out, N3.out, HXI.out, HX6.out, HGR.out, HCR.out.1, HCR.out.2, bel_set (bel_set B62.out (p := ⟨gs, 0, none⟩) HX6.out (.int .i64 (k : Int))) (p := ⟨gs, 1, none⟩) HX6.out (.slice (some ⟨gr, 0, none⟩) zs.length cr)⟩
      exact AllReadyH.nil
    refine AllReadyH.cons rfl (fun K hK => ?_) ?_
    ·
      go_simp
      have hb := bel_alloc D1 (.cells #[.int .i64 0, .int .i64 0, .int .i64 0, .int .i64 0] 70)
      have XI := Lib.hid (BxI.new D1 ⟨0, 0, 0, 0⟩ )
      have hz : W0.heap.size ≤ D1.heap.size := HD.out.size
      replace E := Lib.hid (E.out.next hb)
      replace HD := Lib.hid (HD.out.trans (hb.mono HD.out.size))
      clear hb hHeld
      generalize D1.alloc (.cells #[.int .i64 0, .int .i64 0, .int .i64 0, .int .i64 0] 70) = Y7 at E HD XI ⊢
      obtain ⟨gi, hgs⟩ : ∃ g, g = D1.heap.size := ⟨_, rfl⟩
      rw [← hgs] at XI hz ⊢
      have HXI := Lib.hid hz
      clear hgs hz 
      refine hK.out _ _ (⟨E.out.ms.bm.c1, E.out.ms.bs.c0, E.out.ms.bs.c1, (HCS.out _ E.out.ms.rc).1, (HCS.out _ E.out.ms.rc).2.1, (HCS.out _ E.out.ms.rc).2.2.1, (HCS.out _ E.out.ms.rc).2.2.2⟩) (fun hHeld => ?_)
      clear hK K
      refine wpAnyH_ready (rs := [7, 9]) (by kernel_rfl) (by simp) ?_
      refine AllReadyH.cons rfl (fun K hK => ?_) ?_
      ·
        go_simp
        refine (copy_s (k : Int) B _ d zs Y7 E.out.ms.ri HLZ.out.2 (by have := HLZ.out.1; omega)).mono ?_
        rintro e v8 ⟨gr, cr, rfl, h1, h2, h3, h4, hb⟩
        have O6 := Lib.hid h1
        have HCR := Lib.hid (And.intro h3 h4)
        have NXI := Lib.hid (show gi < gr from Nat.lt_of_lt_of_le XI.out.lt h2)
        have HGR := Lib.hid (Nat.le_trans HD.out.size h2)
        replace E := Lib.hid (E.out.next hb)
        replace HD := Lib.hid (HD.out.trans (hb.mono HD.out.size))
        replace XI := Lib.hid (XI.out.next hb)
        clear hb hHeld h1 h2 h3 h4
        refine hK.out _ _ (⟨E.out.ms.bm.c1, E.out.ms.bs.c0, E.out.ms.bs.c1, (HCS.out _ E.out.ms.rc).1, (HCS.out _ E.out.ms.rc).2.1, (HCS.out _ E.out.ms.rc).2.2.1, (HCS.out _ E.out.ms.rc).2.2.2⟩) (fun hHeld => ?_)
        clear hK K
        refine wpAnyH_ready (rs := [9]) (by kernel_rfl) (by simp) ?_
        refine AllReadyH.cons rfl (fun K hK => ?_) AllReadyH.nil
        go_simp
        have hb := bel_alloc v8 (.cells #[.int .i64 0, .slice none 0 0] 46)
        have X6 := Lib.hid (BxS.new v8 0 none 0 0 )
        have LXI := Lib.hid (XI.out.lt)
        have LO6 := Lib.hid (O6.out.lt)
        have hz : W0.heap.size ≤ v8.heap.size := HD.out.size
        replace E := Lib.hid (E.out.next hb)
        replace HD := Lib.hid (HD.out.trans (hb.mono HD.out.size))
        replace XI := Lib.hid (XI.out.next hb)
        replace O6 := Lib.hid (O6.out.next hb)
        clear hb hHeld
        generalize v8.alloc (.cells #[.int .i64 0, .slice none 0 0] 46) = Y9 at E HD XI O6 X6 ⊢
        obtain ⟨gs, hgs⟩ : ∃ g, g = v8.heap.size := ⟨_, rfl⟩
        rw [← hgs] at X6 hz ⊢
        have HX6 := Lib.hid hz
        have MX6XI := Lib.hid (show gi < gs by have := LXI.out; omega)
        have MX6O6 := Lib.hid (show gr < gs by have := LO6.out; omega)
        clear hgs hz LXI LO6
        refine hK.out _ _ (⟨E.out.ms.bm.c1, E.out.ms.bs.c0, E.out.ms.bs.c1, (HCS.out _ E.out.ms.rc).1, (HCS.out _ E.out.ms.rc).2.1, (HCS.out _ E.out.ms.rc).2.2.1, (HCS.out _ E.out.ms.rc).2.2.2⟩) (fun hHeld => ?_)
        clear hK K
        clear hHeld
        refine wpAnyH_done (by kernel_rfl) ?_ _
        refine HT.out _ _ ?_
        clear HT hP QT
        have N1 := Lib.hid (show gr ≠ gi by (try (have h0 := NXI.out)); (try (have h1 := MXIO6.out)); omega)
        have N2 := Lib.hid (show gr ≠ gs by (try (have h0 := NX6.out)); (try (have h1 := MX6O6.out)); omega)
        have N3 := Lib.hid (show gi ≠ gs by (try (have h0 := MXIX6.out)); (try (have h1 := MX6XI.out)); omega)
        have n3 := N3.out
        have i0 := XI.out.c0
        have i1 := XI.out.c1
        have i2 := XI.out.c2
        have i3 := XI.out.c3
        have j0 := XI.out.fr 0
        have j1 := XI.out.fr 1
        have j2 := XI.out.fr 2
        have j3 := XI.out.fr 3
        refine wpList_step fun K hK => ?_
        go_simp
        refine hK _ _ ?_
        clear hK K i0 j0 i1 j1 i2 j2 i3 j3
        have XI2 := Lib.hid (XI.out.put x)
        have X62 := Lib.hid (X6.out.off4 N3.out (.int .i64 x.op) (.int .i64 x.reg) (.int .i64 x.nx) (.int .i64 x.zr))
        have O62 := Lib.hid (O6.out.off4 N1.out (.int .i64 x.op) (.int .i64 x.reg) (.int .i64 x.nx) (.int .i64 x.zr))
        have B62 := Lib.hid (bel_set (bel_set (bel_set (bel_set HD.out (p := ⟨gi, 0, none⟩) HXI.out (.int .i64 x.op)) (p := ⟨gi, 1, none⟩) HXI.out (.int .i64 x.reg)) (p := ⟨gi, 2, none⟩) HXI.out (.int .i64 x.nx)) (p := ⟨gi, 3, none⟩) HXI.out (.int .i64 x.zr))
        generalize ((((Y9.setCell ⟨gi, 0, none⟩ (.int .i64 x.op)).setCell ⟨gi, 1, none⟩ (.int .i64 x.reg)).setCell ⟨gi, 2, none⟩ (.int .i64 x.nx)).setCell ⟨gi, 3, none⟩ (.int .i64 x.zr)) = W6 at XI2 X62 O62 B62 ⊢
        clear XI X6 O6 HD E
        have r0 := X62.out.c0
        have r1 := X62.out.c1
        have f0 := X62.out.f0
        have f1 := X62.out.f1
        refine wpList_step fun K hK => ?_
        go_simp
        refine hK _ _ ?_
        clear hK K r0 r1 f0 f1
        refine wpList_nil ?_
        go_wp2
        go_meet
        exact ⟨gi, gs, gr, cr, rfl, rfl, (XI2.out.off (p := ⟨gs, 0, none⟩) (fun e => N3.out e.symm) (.int .i64 (k : Int))).off (p := ⟨gs, 1, none⟩) (fun e => N3.out e.symm) (.slice (some ⟨gr, 0, none⟩) zs.length cr), X62.out.put (k : Int) (some ⟨gr, 0, none⟩) zs.length cr, (O62.out.far (p := ⟨gs, 0, none⟩) N2.out (.int .i64 (k : Int))).far (p := ⟨gs, 1, none⟩) N2.out (.slice (some ⟨gr, 0, none⟩) zs.length cr), N1.out, N2.out, N3.out, HXI.out, HX6.out, HGR.out, HCR.out.1, HCR.out.2, bel_set (bel_set B62.out (p := ⟨gs, 0, none⟩) HX6.out (.int .i64 (k : Int))) (p := ⟨gs, 1, none⟩) HX6.out (.slice (some ⟨gr, 0, none⟩) zs.length cr)⟩
      refine AllReadyH.cons rfl (fun K hK => ?_) ?_
      ·
        go_simp
        have hb := bel_alloc Y7 (.cells #[.int .i64 0, .slice none 0 0] 46)
        have X6 := Lib.hid (BxS.new Y7 0 none 0 0 )
        have LXI := Lib.hid (XI.out.lt)
        have hz : W0.heap.size ≤ Y7.heap.size := HD.out.size
        replace E := Lib.hid (E.out.next hb)
        replace HD := Lib.hid (HD.out.trans (hb.mono HD.out.size))
        replace XI := Lib.hid (XI.out.next hb)
        clear hb hHeld
        generalize Y7.alloc (.cells #[.int .i64 0, .slice none 0 0] 46) = Y10 at E HD XI X6 ⊢
        obtain ⟨gs, hgs⟩ : ∃ g, g = Y7.heap.size := ⟨_, rfl⟩
        rw [← hgs] at X6 hz ⊢
        have HX6 := Lib.hid hz
        have MX6XI := Lib.hid (show gi < gs by have := LXI.out; omega)
        clear hgs hz LXI
        refine hK.out _ _ (⟨E.out.ms.bm.c1, E.out.ms.bs.c0, E.out.ms.bs.c1, (HCS.out _ E.out.ms.rc).1, (HCS.out _ E.out.ms.rc).2.1, (HCS.out _ E.out.ms.rc).2.2.1, (HCS.out _ E.out.ms.rc).2.2.2⟩) (fun hHeld => ?_)
        clear hK K
        refine wpAnyH_ready (rs := [7]) (by kernel_rfl) (by simp) ?_
        refine AllReadyH.cons rfl (fun K hK => ?_) AllReadyH.nil
        go_simp
        refine (copy_s (k : Int) B _ d zs Y10 E.out.ms.ri HLZ.out.2 (by have := HLZ.out.1; omega)).mono ?_
        rintro e v11 ⟨gr, cr, rfl, h1, h2, h3, h4, hb⟩
        have O6 := Lib.hid h1
        have HCR := Lib.hid (And.intro h3 h4)
        have NXI := Lib.hid (show gi < gr from Nat.lt_of_lt_of_le XI.out.lt h2)
        have NX6 := Lib.hid (show gs < gr from Nat.lt_of_lt_of_le X6.out.lt h2)
        have HGR := Lib.hid (Nat.le_trans HD.out.size h2)
        replace E := Lib.hid (E.out.next hb)
        replace HD := Lib.hid (HD.out.trans (hb.mono HD.out.size))
        replace XI := Lib.hid (XI.out.next hb)
        replace X6 := Lib.hid (X6.out.next hb)
        clear hb hHeld h1 h2 h3 h4
        refine hK.out _ _ (⟨E.out.ms.bm.c1, E.out.ms.bs.c0, E.out.ms.bs.c1, (HCS.out _ E.out.ms.rc).1, (HCS.out _ E.out.ms.rc).2.1, (HCS.out _ E.out.ms.rc).2.2.1, (HCS.out _ E.out.ms.rc).2.2.2⟩) (fun hHeld => ?_)
        clear hK K
        clear hHeld
        refine wpAnyH_done (by kernel_rfl) ?_ _
        refine HT.out _ _ ?_
        clear HT hP QT
        have N1 := Lib.hid (show gr ≠ gi by (try (have h0 := NXI.out)); (try (have h1 := MXIO6.out)); omega)
        have N2 := Lib.hid (show gr ≠ gs by (try (have h0 := NX6.out)); (try (have h1 := MX6O6.out)); omega)
        have N3 := Lib.hid (show gi ≠ gs by (try (have h0 := MXIX6.out)); (try (have h1 := MX6XI.out)); omega)
        have n3 := N3.out
        have i0 := XI.out.c0
        have i1 := XI.out.c1
        have i2 := XI.out.c2
        have i3 := XI.out.c3
        have j0 := XI.out.fr 0
        have j1 := XI.out.fr 1
        have j2 := XI.out.fr 2
        have j3 := XI.out.fr 3
        refine wpList_step fun K hK => ?_
        go_simp
        refine hK _ _ ?_
        clear hK K i0 j0 i1 j1 i2 j2 i3 j3
        have XI2 := Lib.hid (XI.out.put x)
        have X62 := Lib.hid (X6.out.off4 N3.out (.int .i64 x.op) (.int .i64 x.reg) (.int .i64 x.nx) (.int .i64 x.zr))
        have O62 := Lib.hid (O6.out.off4 N1.out (.int .i64 x.op) (.int .i64 x.reg) (.int .i64 x.nx) (.int .i64 x.zr))
        have B62 := Lib.hid (bel_set (bel_set (bel_set (bel_set HD.out (p := ⟨gi, 0, none⟩) HXI.out (.int .i64 x.op)) (p := ⟨gi, 1, none⟩) HXI.out (.int .i64 x.reg)) (p := ⟨gi, 2, none⟩) HXI.out (.int .i64 x.nx)) (p := ⟨gi, 3, none⟩) HXI.out (.int .i64 x.zr))
        generalize ((((v11.setCell ⟨gi, 0, none⟩ (.int .i64 x.op)).setCell ⟨gi, 1, none⟩ (.int .i64 x.reg)).setCell ⟨gi, 2, none⟩ (.int .i64 x.nx)).setCell ⟨gi, 3, none⟩ (.int .i64 x.zr)) = W6 at XI2 X62 O62 B62 ⊢
        clear XI X6 O6 HD E
        have r0 := X62.out.c0
        have r1 := X62.out.c1
        have f0 := X62.out.f0
        have f1 := X62.out.f1
        refine wpList_step fun K hK => ?_
        go_simp
        refine hK _ _ ?_
        clear hK K r0 r1 f0 f1
        refine wpList_nil ?_
        go_wp2
        go_meet
        exact ⟨gi, gs, gr, cr, rfl, rfl, (XI2.out.off (p := ⟨gs, 0, none⟩) (fun e => N3.out e.symm) (.int .i64 (k : Int))).off (p := ⟨gs, 1, none⟩) (fun e => N3.out e.symm) (.slice (some ⟨gr, 0, none⟩) zs.length cr), X62.out.put (k : Int) (some ⟨gr, 0, none⟩) zs.length cr, (O62.out.far (p := ⟨gs, 0, none⟩) N2.out (.int .i64 (k : Int))).far (p := ⟨gs, 1, none⟩) N2.out (.slice (some ⟨gr, 0, none⟩) zs.length cr), N1.out, N2.out, N3.out, HXI.out, HX6.out, HGR.out, HCR.out.1, HCR.out.2, bel_set (bel_set B62.out (p := ⟨gs, 0, none⟩) HX6.out (.int .i64 (k : Int))) (p := ⟨gs, 1, none⟩) HX6.out (.slice (some ⟨gr, 0, none⟩) zs.length cr)⟩
      exact AllReadyH.nil
    refine AllReadyH.cons rfl (fun K hK => ?_) ?_
    ·
      go_simp
      have hb := bel_alloc D1 (.cells #[.int .i64 0, .slice none 0 0] 46)
      have X6 := Lib.hid (BxS.new D1 0 none 0 0 )
      have hz : W0.heap.size ≤ D1.heap.size := HD.out.size
      replace E := Lib.hid (E.out.next hb)
      replace HD := Lib.hid (HD.out.trans (hb.mono HD.out.size))
      clear hb hHeld
      generalize D1.alloc (.cells #[.int .i64 0, .slice none 0 0] 46) = Y12 at E HD X6 ⊢
      obtain ⟨gs, hgs⟩ : ∃ g, g = D1.heap.size := ⟨_, rfl⟩
      rw [← hgs] at X6 hz ⊢
      have HX6 := Lib.hid hz
      clear hgs hz 
      refine hK.out _ _ (⟨E.out.ms.bm.c1, E.out.ms.bs.c0, E.out.ms.bs.c1, (HCS.out _ E.out.ms.rc).1, (HCS.out _ E.out.ms.rc).2.1, (HCS.out _ E.out.ms.rc).2.2.1, (HCS.out _ E.out.ms.rc).2.2.2⟩) (fun hHeld => ?_)
      clear hK K
      refine wpAnyH_ready (rs := [7, 8]) (by kernel_rfl) (by simp) ?_
      refine AllReadyH.cons rfl (fun K hK => ?_) ?_
      ·
        go_simp
        refine (copy_s (k : Int) B _ d zs Y12 E.out.ms.ri HLZ.out.2 (by have := HLZ.out.1; omega)).mono ?_
        rintro e v13 ⟨gr, cr, rfl, h1, h2, h3, h4, hb⟩
        have O6 := Lib.hid h1
        have HCR := Lib.hid (And.intro h3 h4)
        have NX6 := Lib.hid (show gs < gr from Nat.lt_of_lt_of_le X6.out.lt h2)
        have HGR := Lib.hid (Nat.le_trans HD.out.size h2)
        replace E := Lib.hid (E.out.next hb)
        replace HD := Lib.hid (HD.out.trans (hb.mono HD.out.size))
        replace X6 := Lib.hid (X6.out.next hb)
        clear hb hHeld h1 h2 h3 h4
        refine hK.out _ _ (⟨E.out.ms.bm.c1, E.out.ms.bs.c0, E.out.ms.bs.c1, (HCS.out _ E.out.ms.rc).1, (HCS.out _ E.out.ms.rc).2.1, (HCS.out _ E.out.ms.rc).2.2.1, (HCS.out _ E.out.ms.rc).2.2.2⟩) (fun hHeld => ?_)
        clear hK K
        refine wpAnyH_ready (rs := [8]) (by kernel_rfl) (by simp) ?_
        refine AllReadyH.cons rfl (fun K hK => ?_) AllReadyH.nil
        go_simp
        have hb := bel_alloc v13 (.cells #[.int .i64 0, .int .i64 0, .int .i64 0, .int .i64 0] 70)
        have XI := Lib.hid (BxI.new v13 ⟨0, 0, 0, 0⟩ )
        have LX6 := Lib.hid (X6.out.lt)
        have LO6 := Lib.hid (O6.out.lt)
        have hz : W0.heap.size ≤ v13.heap.size := HD.out.size
        replace E := Lib.hid (E.out.next hb)
        replace HD := Lib.hid (HD.out.trans (hb.mono HD.out.size))
        replace X6 := Lib.hid (X6.out.next hb)
        replace O6 := Lib.hid (O6.out.next hb)
        clear hb hHeld
        generalize v13.alloc (.cells #[.int .i64 0, .int .i64 0, .int .i64 0, .int .i64 0] 70) = Y14 at E HD X6 O6 XI ⊢
        obtain ⟨gi, hgs⟩ : ∃ g, g = v13.heap.size := ⟨_, rfl⟩
        rw [← hgs] at XI hz ⊢
        have HXI := Lib.hid hz
        have MXIX6 := Lib.hid (show gs < gi by have := LX6.out; omega)
        have MXIO6 := Lib.hid (show gr < gi by have := LO6.out; omega)
        clear hgs hz LX6 LO6
        refine hK.out _ _ (⟨E.out.ms.bm.c1, E.out.ms.bs.c0, E.out.ms.bs.c1, (HCS.out _ E.out.ms.rc).1, (HCS.out _ E.out.ms.rc).2.1, (HCS.out _ E.out.ms.rc).2.2.1, (HCS.out _ E.out.ms.rc).2.2.2⟩) (fun hHeld => ?_)
        clear hK K
        clear hHeld
        refine wpAnyH_done (by kernel_rfl) ?_ _
        refine HT.out _ _ ?_
        clear HT hP QT
        have N1 := Lib.hid (show gr ≠ gi by (try (have h0 := NXI.out)); (try (have h1 := MXIO6.out)); omega)
        have N2 := Lib.hid (show gr ≠ gs by (try (have h0 := NX6.out)); (try (have h1 := MX6O6.out)); omega)
        have N3 := Lib.hid (show gi ≠ gs by (try (have h0 := MXIX6.out)); (try (have h1 := MX6XI.out)); omega)
        have n3 := N3.out
        have i0 := XI.out.c0
        have i1 := XI.out.c1
        have i2 := XI.out.c2
        have i3 := XI.out.c3
        have j0 := XI.out.fr 0
        have j1 := XI.out.fr 1
        have j2 := XI.out.fr 2
        have j3 := XI.out.fr 3
        refine wpList_step fun K hK => ?_
        go_simp
        refine hK _ _ ?_
        clear hK K i0 j0 i1 j1 i2 j2 i3 j3
        have XI2 := Lib.hid (XI.out.put x)
        have X62 := Lib.hid (X6.out.off4 N3.out (.int .i64 x.op) (.int .i64 x.reg) (.int .i64 x.nx) (.int .i64 x.zr))
        have O62 := Lib.hid (O6.out.off4 N1.out (.int .i64 x.op) (.int .i64 x.reg) (.int .i64 x.nx) (.int .i64 x.zr))
        have B62 := Lib.hid (bel_set (bel_set (bel_set (bel_set HD.out (p := ⟨gi, 0, none⟩) HXI.out (.int .i64 x.op)) (p := ⟨gi, 1, none⟩) HXI.out (.int .i64 x.reg)) (p := ⟨gi, 2, none⟩) HXI.out (.int .i64 x.nx)) (p := ⟨gi, 3, none⟩) HXI.out (.int .i64 x.zr))
        generalize ((((Y14.setCell ⟨gi, 0, none⟩ (.int .i64 x.op)).setCell ⟨gi, 1, none⟩ (.int .i64 x.reg)).setCell ⟨gi, 2, none⟩ (.int .i64 x.nx)).setCell ⟨gi, 3, none⟩ (.int .i64 x.zr)) = W6 at XI2 X62 O62 B62 ⊢
        clear XI X6 O6 HD E
        have r0 := X62.out.c0
        have r1 := X62.out.c1
        have f0 := X62.out.f0
        have f1 := X62.out.f1
        refine wpList_step fun K hK => ?_
        go_simp
        refine hK _ _ ?_
        clear hK K r0 r1 f0 f1
        refine wpList_nil ?_
        go_wp2
        go_meet
        exact ⟨gi, gs, gr, cr, rfl, rfl, (XI2.out.off (p := ⟨gs, 0, none⟩) (fun e => N3.out e.symm) (.int .i64 (k : Int))).off (p := ⟨gs, 1, none⟩) (fun e => N3.out e.symm) (.slice (some ⟨gr, 0, none⟩) zs.length cr), X62.out.put (k : Int) (some ⟨gr, 0, none⟩) zs.length cr, (O62.out.far (p := ⟨gs, 0, none⟩) N2.out (.int .i64 (k : Int))).far (p := ⟨gs, 1, none⟩) N2.out (.slice (some ⟨gr, 0, none⟩) zs.length cr), N1.out, N2.out, N3.out, HXI.out, HX6.out, HGR.out, HCR.out.1, HCR.out.2, bel_set (bel_set B62.out (p := ⟨gs, 0, none⟩) HX6.out (.int .i64 (k : Int))) (p := ⟨gs, 1, none⟩) HX6.out (.slice (some ⟨gr, 0, none⟩) zs.length cr)⟩
      refine AllReadyH.cons rfl (fun K hK => ?_) ?_
      ·
        go_simp
        have hb := bel_alloc Y12 (.cells #[.int .i64 0, .int .i64 0, .int .i64 0, .int .i64 0] 70)
        have XI := Lib.hid (BxI.new Y12 ⟨0, 0, 0, 0⟩ )
        have LX6 := Lib.hid (X6.out.lt)
        have hz : W0.heap.size ≤ Y12.heap.size := HD.out.size
        replace E := Lib.hid (E.out.next hb)
        replace HD := Lib.hid (HD.out.trans (hb.mono HD.out.size))
        replace X6 := Lib.hid (X6.out.next hb)
        clear hb hHeld
        generalize Y12.alloc (.cells #[.int .i64 0, .int .i64 0, .int .i64 0, .int .i64 0] 70) = Y15 at E HD X6 XI ⊢
        obtain ⟨gi, hgs⟩ : ∃ g, g = Y12.heap.size := ⟨_, rfl⟩
        rw [← hgs] at XI hz ⊢
        have HXI := Lib.hid hz
        have MXIX6 := Lib.hid (show gs < gi by have := LX6.out; omega)
        clear hgs hz LX6
        refine hK.out _ _ (⟨E.out.ms.bm.c1, E.out.ms.bs.c0, E.out.ms.bs.c1, (HCS.out _ E.out.ms.rc).1, (HCS.out _ E.out.ms.rc).2.1, (HCS.out _ E.out.ms.rc).2.2.1, (HCS.out _ E.out.ms.rc).2.2.2⟩) (fun hHeld => ?_)
        clear hK K
        refine wpAnyH_ready (rs := [7]) (by kernel_rfl) (by simp) ?_
        refine AllReadyH.cons rfl (fun K hK => ?_) AllReadyH.nil
        go_simp
        refine (copy_s (k : Int) B _ d zs Y15 E.out.ms.ri HLZ.out.2 (by have := HLZ.out.1; omega)).mono ?_
        rintro e v16 ⟨gr, cr, rfl, h1, h2, h3, h4, hb⟩
        have O6 := Lib.hid h1
        have HCR := Lib.hid (And.intro h3 h4)
        have NXI := Lib.hid (show gi < gr from Nat.lt_of_lt_of_le XI.out.lt h2)
        have NX6 := Lib.hid (show gs < gr from Nat.lt_of_lt_of_le X6.out.lt h2)
        have HGR := Lib.hid (Nat.le_trans HD.out.size h2)
        replace E := Lib.hid (E.out.next hb)
        replace HD := Lib.hid (HD.out.trans (hb.mono HD.out.size))
        replace X6 := Lib.hid (X6.out.next hb)
        replace XI := Lib.hid (XI.out.next hb)
        clear hb hHeld h1 h2 h3 h4
        refine hK.out _ _ (⟨E.out.ms.bm.c1, E.out.ms.bs.c0, E.out.ms.bs.c1, (HCS.out _ E.out.ms.rc).1, (HCS.out _ E.out.ms.rc).2.1, (HCS.out _ E.out.ms.rc).2.2.1, (HCS.out _ E.out.ms.rc).2.2.2⟩) (fun hHeld => ?_)
        clear hK K
        clear hHeld
        refine wpAnyH_done (by kernel_rfl) ?_ _
        refine HT.out _ _ ?_
        clear HT hP QT
        have N1 := Lib.hid (show gr ≠ gi by (try (have h0 := NXI.out)); (try (have h1 := MXIO6.out)); omega)
        have N2 := Lib.hid (show gr ≠ gs by (try (have h0 := NX6.out)); (try (have h1 := MX6O6.out)); omega)
        have N3 := Lib.hid (show gi ≠ gs by (try (have h0 := MXIX6.out)); (try (have h1 := MX6XI.out)); omega)
        have n3 := N3.out
        have i0 := XI.out.c0
        have i1 := XI.out.c1
        have i2 := XI.out.c2
        have i3 := XI.out.c3
        have j0 := XI.out.fr 0
        have j1 := XI.out.fr 1
        have j2 := XI.out.fr 2
        have j3 := XI.out.fr 3
        refine wpList_step fun K hK => ?_
        go_simp
        refine hK _ _ ?_
        clear hK K i0 j0 i1 j1 i2 j2 i3 j3
        have XI2 := Lib.hid (XI.out.put x)
        have X62 := Lib.hid (X6.out.off4 N3.out (.int .i64 x.op) (.int .i64 x.reg) (.int .i64 x.nx) (.int .i64 x.zr))
        have O62 := Lib.hid (O6.out.off4 N1.out (.int .i64 x.op) (.int .i64 x.reg) (.int .i64 x.nx) (.int .i64 x.zr))
        have B62 := Lib.hid (bel_set (bel_set (bel_set (bel_set HD.out (p := ⟨gi, 0, none⟩) HXI.out (.int .i64 x.op)) (p := ⟨gi, 1, none⟩) HXI.out (.int .i64 x.reg)) (p := ⟨gi, 2, none⟩) HXI.out (.int .i64 x.nx)) (p := ⟨gi, 3, none⟩) HXI.out (.int .i64 x.zr))
        generalize ((((v16.setCell ⟨gi, 0, none⟩ (.int .i64 x.op)).setCell ⟨gi, 1, none⟩ (.int .i64 x.reg)).setCell ⟨gi, 2, none⟩ (.int .i64 x.nx)).setCell ⟨gi, 3, none⟩ (.int .i64 x.zr)) = W6 at XI2 X62 O62 B62 ⊢
        clear XI X6 O6 HD E
        have r0 := X62.out.c0
        have r1 := X62.out.c1
        have f0 := X62.out.f0
        have f1 := X62.out.f1
        refine wpList_step fun K hK => ?_
        go_simp
        refine hK _ _ ?_
        clear hK K r0 r1 f0 f1
        refine wpList_nil ?_
        go_wp2
        go_meet
        exact ⟨gi, gs, gr, cr, rfl, rfl, (XI2.out.off (p := ⟨gs, 0, none⟩) (fun e => N3.out e.symm) (.int .i64 (k : Int))).off (p := ⟨gs, 1, none⟩) (fun e => N3.out e.symm) (.slice (some ⟨gr, 0, none⟩) zs.length cr), X62.out.put (k : Int) (some ⟨gr, 0, none⟩) zs.length cr, (O62.out.far (p := ⟨gs, 0, none⟩) N2.out (.int .i64 (k : Int))).far (p := ⟨gs, 1, none⟩) N2.out (.slice (some ⟨gr, 0, none⟩) zs.length cr), N1.out, N2.out, N3.out, HXI.out, HX6.out, HGR.out, HCR.out.1, HCR.out.2, bel_set (bel_set B62.out (p := ⟨gs, 0, none⟩) HX6.out (.int .i64 (k : Int))) (p := ⟨gs, 1, none⟩) HX6.out (.slice (some ⟨gr, 0, none⟩) zs.length cr)⟩
      exact AllReadyH.nil
    exact AllReadyH.nil
  case rest =>
    obtain ⟨gi, gs, gr, cr, rfl, rfl, hxi, hx7, ho7, n1, n2, n3, l1, l2, l3, hc1, hc2, hb⟩ := hcut
    have XI := Lib.hid hxi
    have X7 := Lib.hid hx7
    have O7 := Lib.hid ho7
    have N1 := Lib.hid n1
    have N2 := Lib.hid n2
    have N3 := Lib.hid n3
    have LL := Lib.hid (And.intro l1 (And.intro l2 l3))
    have HCR := Lib.hid (And.intro hc1 hc2)
    have B7 := Lib.hid hb
    clear hxi hx7 ho7 n1 n2 n3 l1 l2 l3 hc1 hc2 hb HD E hk hki
    have E := Lib.hid (E0.out.next B7.out)
    have hg1 : g + 1 + 1 < gs := Nat.lt_of_lt_of_le E0.out.xr.lt LL.out.2.1
    have hg2 : g + 1 + 1 < gr := Nat.lt_of_lt_of_le E0.out.xr.lt LL.out.2.2
    have q1 : gs ≠ g + 1 + 1 := by omega
    have q2 : gr ≠ g + 1 + 1 := by omega
    have q3 := N2.out
    have q4 : gs ≠ gr := fun e => q3 e.symm
    have q5 : gi ≠ gs := N3.out
    have q6 : gi ≠ gr := fun e => N1.out e.symm
    have HG := Lib.hid (show w.heap.size ≤ gs ∧ w.heap.size ≤ gr ∧ w.heap.size ≤ g + 1 + 1 by have := E0.out.ms.ge; omega)
    clear hg1 hg2 E0 B7 LL HCS HKN
    have i0 := XI.out.c0
    have i1 := XI.out.c1
    have i2 := XI.out.c2
    have i3 := XI.out.c3
    have s0 := X7.out.c0
    have s1 := X7.out.c1
    have f0 := X7.out.f0
    have f1 := X7.out.f1
    have r0 := E.out.xr.c0
    have r1 := E.out.xr.c1
    have e0 := E.out.xr.f0
    have e1 := E.out.xr.f1
    have wl := E.out.xr.lt
    have sl := X7.out.lt
    have ol := O7.out.lt
    obtain ⟨op, reg, nx, zr⟩ := x
    simp only at i0 i1 i2 i3
    rcases valid_cases HVX.out with ⟨h3, _⟩ | ⟨h0, a0, a1, _⟩
    · simp only at h3
      subst h3
      have HS := Lib.hid (show stepM cs (k : Int) zs = (0, [], 5) by
        rw [HST.out]
        simp [endM]
        )
      go_wp2
      have Q := (E.out.xr).put 0 none 0 0
      have y0 := Q.c0
      have y1 := Q.c1
      refine bodyPost_ret (v := .tuple #[.agg #[.int .i64 0, .slice none 0 0], .int .i64 5]) (by simp [results, Tryd.results66, go_sem, y0, y1]) rfl ?_
      refine (show StP (stepM cs (k : Int) zs).1 (stepM cs (k : Int) zs).2.1 (stepM cs (k : Int) zs).2.2 w _ _ from ?_)
      rw [HS.out]
      exact ⟨none, 0, rfl, RdI.nil _ _, Nat.le_refl _, by omega, bel_set (bel_set (E.out.ms.below) HG.out.2.2 _) HG.out.2.2 _, fun a h => by cases h⟩
    · simp only at h0 a0 a1
      obtain ⟨r, rfl⟩ := Int.eq_ofNat_of_zero_le a0
      have hr : r < zs.length := by have := HP.out.len; omega
      obtain ⟨b0, b1⟩ := allIn_at HP.out.all hr
      have y0 := O7.out.cell r hr
      have y1 := O7.out.frozen r
      obtain ⟨z, hz⟩ : ∃ z, z = zs.getD r 0 := ⟨_, rfl⟩
      rw [← hz] at y0 b0 b1
      have hrl : (r : Int) < (zs.length : Int) := by omega
      have HZ := Lib.hid hz
      have HR := Lib.hid hr
      clear hz a0 a1 hr
      rcases h0 with rfl | rfl | rfl
      · have HS0 := Lib.hid (show endM ⟨0, (r : Int), nx, zr⟩ zs = false ∧ advZs ⟨0, (r : Int), nx, zr⟩ zs = zs.set r (z + 1) ∧ advAt ⟨0, (r : Int), nx, zr⟩ zs = nx ∧ advOk ⟨0, (r : Int), nx, zr⟩ zs = decide (z + 1 ≤ 1099511627776) by
          have e := set_get (zs := zs) (r := r) HR.out (z + 1)
          refine ⟨by simp [endM], ?_, by simp [advAt], ?_⟩
          · simp only [advZs, rvM, Int.toNat_natCast, if_true, HZ.out]
          · simp only [advOk, advZs, rvM, Int.toNat_natCast, if_true, ← HZ.out]; rw [e])
        by_cases hq : 1099511627776 < z + 1
        · have t1 : decide (1099511627776 < z + 1) = true := decide_eq_true hq
          have HQ := Lib.hid (decide_eq_false (show ¬ z + 1 ≤ 1099511627776 by omega))
          clear hq
          have HS := Lib.hid (show stepM cs (k : Int) zs = (0, [], 4) by
            rw [HST.out]
            rw [HS0.out.1, HS0.out.2.2.2, HQ.out]; simp
            )
          go_wp2
          have Q := ((E.out.xr.off (p := ⟨gr, r, none⟩) q2 (.int .i64 (z + 1))).off (p := ⟨gs, 0, none⟩) q1 (.int .i64 nx)).put 0 none 0 0
          have y0 := Q.c0
          have y1 := Q.c1
          refine bodyPost_ret (v := .tuple #[.agg #[.int .i64 0, .slice none 0 0], .int .i64 4]) (by simp [results, Tryd.results66, go_sem, y0, y1]) rfl ?_
          refine (show StP (stepM cs (k : Int) zs).1 (stepM cs (k : Int) zs).2.1 (stepM cs (k : Int) zs).2.2 w _ _ from ?_)
          rw [HS.out]
          exact ⟨none, 0, rfl, RdI.nil _ _, Nat.le_refl _, by omega, bel_set (bel_set (bel_set (bel_set E.out.ms.below (p := ⟨gr, r, none⟩) HG.out.2.1 _) (p := ⟨gs, 0, none⟩) HG.out.1 _) HG.out.2.2 _) HG.out.2.2 _, fun a h => by cases h⟩
        · have t1 : decide (1099511627776 < z + 1) = false := decide_eq_false hq
          have HQ := Lib.hid (decide_eq_true (show z + 1 ≤ 1099511627776 by omega))
          clear hq
          have HS := Lib.hid (show stepM cs (k : Int) zs = (nx, zs.set r (z + 1), 0) by
            rw [HST.out]
            rw [HS0.out.1, HS0.out.2.2.2, HQ.out, HS0.out.2.1, HS0.out.2.2.1]; simp
            )
          go_wp2
          have Q := ((E.out.xr.off (p := ⟨gr, r, none⟩) q2 (.int .i64 (z + 1))).off (p := ⟨gs, 0, none⟩) q1 (.int .i64 nx)).put nx (some ⟨gr, 0, none⟩) zs.length cr
          have y0 := Q.c0
          have y1 := Q.c1
          refine bodyPost_ret (v := .tuple #[.agg #[.int .i64 nx, .slice (some ⟨gr, 0, none⟩) zs.length cr], .int .i64 0]) (by simp [results, Tryd.results66, go_sem, y0, y1]) rfl ?_
          refine (show StP (stepM cs (k : Int) zs).1 (stepM cs (k : Int) zs).2.1 (stepM cs (k : Int) zs).2.2 w _ _ from ?_)
          rw [HS.out]
          exact ⟨some ⟨gr, 0, none⟩, cr, by simp, ((((O7.out.set_ r (z + 1)).far (p := ⟨gs, 0, none⟩) q3 _).far q2 _).far q2 _).rd, by simp; exact HCR.out.1, HCR.out.2, bel_set (bel_set (bel_set (bel_set E.out.ms.below (p := ⟨gr, r, none⟩) HG.out.2.1 _) (p := ⟨gs, 0, none⟩) HG.out.1 _) HG.out.2.2 _) HG.out.2.2 _, fun a h => by injection h with h; subst h; exact HG.out.2.1⟩
      · by_cases hq : z = 0
        · have tz : (z == 0) = true := beq_iff_eq.2 hq
          have HQ := Lib.hid hq
          clear hq
          have HS := Lib.hid (show stepM cs (k : Int) zs = (0, [], 5) by
            rw [HST.out]
            simp [endM, -List.getD_eq_getElem?_getD, ← HZ.out, HQ.out]
            )
          go_wp2
          have Q := (E.out.xr).put 0 none 0 0
          have y0 := Q.c0
          have y1 := Q.c1
          refine bodyPost_ret (v := .tuple #[.agg #[.int .i64 0, .slice none 0 0], .int .i64 5]) (by simp [results, Tryd.results66, go_sem, y0, y1]) rfl ?_
          refine (show StP (stepM cs (k : Int) zs).1 (stepM cs (k : Int) zs).2.1 (stepM cs (k : Int) zs).2.2 w _ _ from ?_)
          rw [HS.out]
          exact ⟨none, 0, rfl, RdI.nil _ _, Nat.le_refl _, by omega, bel_set (bel_set (E.out.ms.below) HG.out.2.2 _) HG.out.2.2 _, fun a h => by cases h⟩
        · have tz : (z == 0) = false := beq_eq_false_iff_ne.2 hq
          have HS0 := Lib.hid (show endM ⟨1, (r : Int), nx, zr⟩ zs = false ∧ advZs ⟨1, (r : Int), nx, zr⟩ zs = zs.set r (z - 1) ∧ advAt ⟨1, (r : Int), nx, zr⟩ zs = nx ∧ advOk ⟨1, (r : Int), nx, zr⟩ zs = true by
            have e := set_get (zs := zs) (r := r) HR.out (z - 1)
            refine ⟨by simp [endM, -List.getD_eq_getElem?_getD, ← HZ.out, hq], ?_, by simp [advAt], ?_⟩
            · simp only [advZs, rvM, Int.toNat_natCast, if_true, if_neg (show ¬ (1 : Int) = 0 by omega), HZ.out]
            · simp only [advOk, advZs, rvM, Int.toNat_natCast, if_true, if_neg (show ¬ (1 : Int) = 0 by omega), ← HZ.out]; rw [e]; exact decide_eq_true (by omega))
          clear hq
          have HS := Lib.hid (show stepM cs (k : Int) zs = (nx, zs.set r (z - 1), 0) by
            rw [HST.out]
            rw [HS0.out.1, HS0.out.2.2.2, HS0.out.2.1, HS0.out.2.2.1]; simp
            )
          go_wp2
          have Q := ((E.out.xr.off (p := ⟨gr, r, none⟩) q2 (.int .i64 (z - 1))).off (p := ⟨gs, 0, none⟩) q1 (.int .i64 nx)).put nx (some ⟨gr, 0, none⟩) zs.length cr
          have y0 := Q.c0
          have y1 := Q.c1
          refine bodyPost_ret (v := .tuple #[.agg #[.int .i64 nx, .slice (some ⟨gr, 0, none⟩) zs.length cr], .int .i64 0]) (by simp [results, Tryd.results66, go_sem, y0, y1]) rfl ?_
          refine (show StP (stepM cs (k : Int) zs).1 (stepM cs (k : Int) zs).2.1 (stepM cs (k : Int) zs).2.2 w _ _ from ?_)
          rw [HS.out]
          exact ⟨some ⟨gr, 0, none⟩, cr, by simp, ((((O7.out.set_ r (z - 1)).far (p := ⟨gs, 0, none⟩) q3 _).far q2 _).far q2 _).rd, by simp; exact HCR.out.1, HCR.out.2, bel_set (bel_set (bel_set (bel_set E.out.ms.below (p := ⟨gr, r, none⟩) HG.out.2.1 _) (p := ⟨gs, 0, none⟩) HG.out.1 _) HG.out.2.2 _) HG.out.2.2 _, fun a h => by injection h with h; subst h; exact HG.out.2.1⟩
      · by_cases hq : z = 0
        · have tz : (z == 0) = true := beq_iff_eq.2 hq
          have HS0 := Lib.hid (show endM ⟨2, (r : Int), nx, zr⟩ zs = false ∧ advZs ⟨2, (r : Int), nx, zr⟩ zs = zs ∧ advAt ⟨2, (r : Int), nx, zr⟩ zs = zr ∧ advOk ⟨2, (r : Int), nx, zr⟩ zs = true by
            refine ⟨by simp [endM], by simp [advZs], ?_, ?_⟩
            · simp only [advAt, rvM, Int.toNat_natCast, ← HZ.out, hq, and_self, if_true]
            · simp only [advOk, advZs, Int.toNat_natCast, if_neg (show ¬ (2 : Int) = 0 by omega), if_neg (show ¬ (2 : Int) = 1 by omega), ← HZ.out]; exact decide_eq_true b1)
          clear hq
          have HS := Lib.hid (show stepM cs (k : Int) zs = (zr, zs, 0) by
            rw [HST.out]
            rw [HS0.out.1, HS0.out.2.2.2, HS0.out.2.1, HS0.out.2.2.1]; simp
            )
          go_wp2
          have Q := ((E.out.xr.off (p := ⟨gs, 0, none⟩) q1 (.int .i64 nx)).off (p := ⟨gs, 0, none⟩) q1 (.int .i64 zr)).put zr (some ⟨gr, 0, none⟩) zs.length cr
          have y0 := Q.c0
          have y1 := Q.c1
          refine bodyPost_ret (v := .tuple #[.agg #[.int .i64 zr, .slice (some ⟨gr, 0, none⟩) zs.length cr], .int .i64 0]) (by simp [results, Tryd.results66, go_sem, y0, y1]) rfl ?_
          refine (show StP (stepM cs (k : Int) zs).1 (stepM cs (k : Int) zs).2.1 (stepM cs (k : Int) zs).2.2 w _ _ from ?_)
          rw [HS.out]
          exact ⟨some ⟨gr, 0, none⟩, cr, rfl, ((((O7.out.far (p := ⟨gs, 0, none⟩) q3 _).far (p := ⟨gs, 0, none⟩) q3 _).far q2 _).far q2 _).rd, HCR.out.1, HCR.out.2, bel_set (bel_set (bel_set (bel_set E.out.ms.below (p := ⟨gs, 0, none⟩) HG.out.1 _) (p := ⟨gs, 0, none⟩) HG.out.1 _) HG.out.2.2 _) HG.out.2.2 _, fun a h => by injection h with h; subst h; exact HG.out.2.1⟩
        · have tz : (z == 0) = false := beq_eq_false_iff_ne.2 hq
          have HS0 := Lib.hid (show endM ⟨2, (r : Int), nx, zr⟩ zs = false ∧ advZs ⟨2, (r : Int), nx, zr⟩ zs = zs ∧ advAt ⟨2, (r : Int), nx, zr⟩ zs = nx ∧ advOk ⟨2, (r : Int), nx, zr⟩ zs = true by
            refine ⟨by simp [endM], by simp [advZs], ?_, ?_⟩
            · simp only [advAt, rvM, Int.toNat_natCast, ← HZ.out, hq, and_false, if_false]
            · simp only [advOk, advZs, Int.toNat_natCast, if_neg (show ¬ (2 : Int) = 0 by omega), if_neg (show ¬ (2 : Int) = 1 by omega), ← HZ.out]; exact decide_eq_true b1)
          clear hq
          have HS := Lib.hid (show stepM cs (k : Int) zs = (nx, zs, 0) by
            rw [HST.out]
            rw [HS0.out.1, HS0.out.2.2.2, HS0.out.2.1, HS0.out.2.2.1]; simp
            )
          go_wp2
          have Q := (E.out.xr.off (p := ⟨gs, 0, none⟩) q1 (.int .i64 nx)).put nx (some ⟨gr, 0, none⟩) zs.length cr
          have y0 := Q.c0
          have y1 := Q.c1
          refine bodyPost_ret (v := .tuple #[.agg #[.int .i64 nx, .slice (some ⟨gr, 0, none⟩) zs.length cr], .int .i64 0]) (by simp [results, Tryd.results66, go_sem, y0, y1]) rfl ?_
          refine (show StP (stepM cs (k : Int) zs).1 (stepM cs (k : Int) zs).2.1 (stepM cs (k : Int) zs).2.2 w _ _ from ?_)
          rw [HS.out]
          exact ⟨some ⟨gr, 0, none⟩, cr, rfl, ((((O7.out.far (p := ⟨gs, 0, none⟩) q3 _)).far q2 _).far q2 _).rd, HCR.out.1, HCR.out.2, bel_set (bel_set (bel_set E.out.ms.below (p := ⟨gs, 0, none⟩) HG.out.1 _) HG.out.2.2 _) HG.out.2.2 _, fun a h => by injection h with h; subst h; exact HG.out.2.1⟩
end Go.Proofs.YthjdnidapbhdlaaDoor

import Derived.Test.YteabokkofoomkaaGreatCak
import Derived.Test.YteabokkofoomkaaGreatCbh
import Derived.Test.YteabokkofoomkaaGreatCag
import Derived.Test.YteabokkofoomkaaGreatCbl
import Derived.Test.YteabokkofoomkaaGreatCbb
set_option maxRecDepth 100000
namespace Go.Proofs.YteabokkofoomkaaGreat
open Go.RowKit Go.Shelf Go.Deep
set_option maxHeartbeats 8000000 in
theorem refPSame_t (V : Int) (A : Option Addr) (n c : Nat) (B : Option Addr) (d : Nat) (ts : List Trm) (w : World) (h : RdT w A n ts) (h' : RdT w B n ts) (hn : n ≤ 1000000) (hX : ∀ i, i < n → (trmAt ts i).xs.length ≤ 1000000) :
 Calls Tryz.prog 23 #[aggP V A n c, aggP V B n d] w (RetB true w) := by
 have k0 := bel_alloc w (boxP V A n c)
 have k1 := bel_alloc (w.alloc (boxP V A n c)) (boxP V B n d)
 obtain ⟨g, hg⟩ : ∃ g, g = w.heap.size := ⟨_, rfl⟩
 have P := Lib.hid (k0.trans (k1.mono k0.size))
 have X1 := Lib.hid (show BxP ((w.alloc (boxP V A n c)).alloc (boxP V B n d)) g V A n c from by rw [hg]; exact (BxP.new w V A n c).next k1)
 have X2 := Lib.hid (show BxP ((w.alloc (boxP V A n c)).alloc (boxP V B n d)) (g + 1) V B n d from by
  have e0 : (w.alloc (boxP V A n c)).heap.size = g + 1 := by rw [World.size_alloc, hg]
  rw [← e0]; exact BxP.new _ V B n d)
 have HI := Lib.hid (And.intro h h')
 have HXS := Lib.hid hX
 clear k0 k1 h h' hX
 go_enter Tryz.func23, Tryz.ntmps23
 go_upto_region 1 with (fail)
 generalize (w.alloc (boxP V A n c)).alloc (boxP V B n d) = W0 at P X1 X2 ⊢
 rw [← hg]
 clear hg
 have a0 := X1.out.c0
 have a1 := X1.out.c1
 have b0 := X2.out.c0
 have b1 := X2.out.c1
 have t0 : (V != V) = false := bne_self_eq_false _
 have t1 : ((n : Int) != (n : Int)) = false := bne_self_eq_false _
 go_upto_region 4 with (fail)
 clear a0 a1 b0 b1
 go_loopw [5] (fun v wr => ∃ j : Nat, v = .int .i64 (j : Int) ∧ j ≤ n ∧ Below w.heap.size w wr ∧ BxP wr g V A n c ∧ BxP wr (g + 1) V B n d) (fun v _ => n - (intOf v).toNat)
 case atStart => exact ⟨0, rfl, Nat.zero_le _, P.out, X1.out, X2.out⟩
 case round =>
  obtain ⟨j, rfl, hj, hp, hx1, hx2⟩ := hrel
  clear P X1 X2
  have P := Lib.hid hp
  have X1 := Lib.hid hx1
  have X2 := Lib.hid hx2
  clear hp hx1 hx2
  have a1 := X1.out.c1
  by_cases hjn : j < n
  · have t1 : decide ((j : Int) < (n : Int)) = true := decide_eq_true (by omega)
    have t1n : decide (j < n) = true := decide_eq_true hjn
    have hjI : (j : Int) < (n : Int) := by omega
    obtain ⟨b, o, rfl, hlt, hc⟩ := HI.out.1.at_ (by omega)
    obtain ⟨b', o', rfl, hlt', hc'⟩ := HI.out.2.at_ (by omega)
    obtain ⟨A1, n1, c1, B1, m1, d1, hT⟩ := hc j hjn
    obtain ⟨A2, n2, c2, B2, m2, d2, hT'⟩ := hc' j hjn
    have HXL := Lib.hid (show n1 ≤ 9223372036854775800 by have h1 := HXS.out j hjn; have h2 := hT.rd.len; omega)
    have HT1 := Lib.hid (show ∀ W, Below w.heap.size w W → TrmIs W b (o + j * 3) (trmAt ts j) A1 n1 c1 B1 m1 d1 from fun W hb => hT.below hlt hb)
    have HT2 := Lib.hid (show ∀ W, Below w.heap.size w W → TrmIs W b' (o' + j * 3) (trmAt ts j) A2 n2 c2 B2 m2 d2 from fun W hb => hT'.below hlt' hb)
    clear hc hc' hT hT'
    obtain ⟨t, ht⟩ : ∃ u, u = trmAt ts j := ⟨_, rfl⟩
    rw [← ht] at HT1 HT2
    clear ht
    go_upto_region 6 with (fail)
    clear a1
    refine wp_region_held_drew (S := (fun w' => w'.cell? ⟨g, 1, none⟩ = some ((.slice (some ⟨b, o, none⟩) n c)) ∧ w'.cell? ⟨(g + 1), 1, none⟩ = some ((.slice (some ⟨b', o', none⟩) n d)) ∧ w'.cell? ⟨b, (o + j * 3), none⟩ = some (.bool t.s) ∧ w'.cell? ⟨b, (o + j * 3 + 1), none⟩ = some (.slice A1 n1 c1) ∧ w'.cell? ⟨b, (o + j * 3 + 2), none⟩ = some (.slice B1 m1 d1) ∧ w'.cell? ⟨b', (o' + j * 3), none⟩ = some (.bool t.s) ∧ w'.cell? ⟨b', (o' + j * 3 + 1), none⟩ = some (.slice A2 n2 c2) ∧ w'.cell? ⟨b', (o' + j * 3 + 2), none⟩ = some (.slice B2 m2 d2))) (by kernel_rfl) (⟨cell_drq X1.out.c1, cell_drq X2.out.c1, cell_drq (HT1.out _ P.out).c0, cell_drq (HT1.out _ P.out).c1, cell_drq (HT1.out _ P.out).c2, cell_drq (HT2.out _ P.out).c0, cell_drq (HT2.out _ P.out).c1, cell_drq (HT2.out _ P.out).c2⟩) (fun hHeld => ?_)
    replace P := Lib.hid (P.out.trans ((Below.refl wr.heap.size wr).drew.mono P.out.size))
    replace X1 := Lib.hid (X1.out.next (Below.refl wr.heap.size wr).drew)
    replace X2 := Lib.hid (X2.out.next (Below.refl wr.heap.size wr).drew)
    generalize wr.drew = D1 at P X1 X2 hHeld ⊢
    refine tkk 0 27 rfl rfl (by kernel_rfl) (fun _ _ _ _ h => h) (by rfl) (fun w h => by obtain ⟨h0, h1, h2, h3, h4, h5, h6, h7⟩ := h; go_simp; rfl) (by assumption) ?_
    simp only [set0, set1]
    refine tkk 1 28 rfl rfl (by kernel_rfl) (fun _ _ _ _ h => h) (by rfl) (fun w h => by obtain ⟨h0, h1, h2, h3, h4, h5, h6, h7⟩ := h; go_simp; rfl) (by assumption) ?_
    simp only [set0, set1]
    refine tkk 2 29 rfl rfl (by kernel_rfl) (fun _ _ _ _ h => h) (by rfl) (fun w h => by obtain ⟨h0, h1, h2, h3, h4, h5, h6, h7⟩ := h; go_simp; rfl) (by assumption) ?_
    simp only [set0, set1]
    refine tkk 3 30 rfl rfl (by kernel_rfl) (fun _ _ _ _ h => h) (by rfl) (fun w h => by obtain ⟨h0, h1, h2, h3, h4, h5, h6, h7⟩ := h; go_simp; rfl) (by assumption) ?_
    simp only [set0, set1]
    refine tkk 4 31 rfl rfl (by kernel_rfl) (fun _ _ _ _ h => h) (by rfl) (fun w h => by obtain ⟨h0, h1, h2, h3, h4, h5, h6, h7⟩ := h; go_simp; rfl) (by assumption) ?_
    simp only [set0, set1]
    refine tkk 5 32 rfl rfl (by kernel_rfl) (fun _ _ _ _ h => h) (by rfl) (fun w h => by obtain ⟨h0, h1, h2, h3, h4, h5, h6, h7⟩ := h; go_simp; rfl) (by assumption) ?_
    simp only [set0, set1]
    refine tkk 6 33 rfl rfl (by kernel_rfl) (fun _ _ _ _ h => h) (by rfl) (fun w h => by obtain ⟨h0, h1, h2, h3, h4, h5, h6, h7⟩ := h; go_simp; rfl) (by assumption) ?_
    simp only [set0, set1]
    refine tkk 7 34 rfl rfl (by kernel_rfl) (fun _ _ _ _ h => h) (by rfl) (fun w h => by obtain ⟨h0, h1, h2, h3, h4, h5, h6, h7⟩ := h; go_simp; rfl) (by assumption) ?_
    simp only [set0, set1]
    refine tkk 8 35 rfl rfl (by kernel_rfl) (fun _ _ _ _ h => h) (by rfl) (fun w h => by obtain ⟨h0, h1, h2, h3, h4, h5, h6, h7⟩ := h; go_simp; rfl) (by assumption) ?_
    simp only [set0, set1]
    refine tkk 9 36 rfl rfl (by kernel_rfl) (fun _ _ _ _ h => h) (by rfl) (fun w h => by obtain ⟨h0, h1, h2, h3, h4, h5, h6, h7⟩ := h; go_simp; rfl) (by assumption) ?_
    simp only [set0, set1]
    refine tkk 10 37 rfl rfl (by kernel_rfl) (fun _ _ _ _ h => h) (by rfl) (fun w h => by obtain ⟨h0, h1, h2, h3, h4, h5, h6, h7⟩ := h; go_simp; rfl) (by assumption) ?_
    simp only [set0, set1]
    refine tkk 11 38 rfl rfl (by kernel_rfl) (fun _ _ _ _ h => h) (by rfl) (fun w h => by obtain ⟨h0, h1, h2, h3, h4, h5, h6, h7⟩ := h; go_simp; rfl) (by assumption) ?_
    simp only [set0, set1]
    refine wpAnyH_ready (rs := [12]) (by kernel_rfl) (by simp) ?_
    refine AllReadyH.cons rfl (fun K hK => ?_) AllReadyH.nil
    go_simp
    refine (show Calls Tryz.prog 29 #[.agg #[.bool t.s, .slice A1 n1 c1], .agg #[.bool t.s, .slice A2 n2 c2]] D1 (RetB true D1) from by have h := Same_c t.s t.s A1 A2 n1 c1 n2 c2 t.xs t.xs D1 (HT1.out _ P.out).rd (HT2.out _ P.out).rd HXL.out; rw [decide_eq_true (show t.s = t.s from rfl), decide_eq_true (show t.xs = t.xs from rfl)] at h; exact h).mono ?_
    rintro e v2 ⟨rfl, hb⟩
    replace P := Lib.hid (P.out.trans (hb.mono P.out.size))
    replace X1 := Lib.hid (X1.out.next hb)
    replace X2 := Lib.hid (X2.out.next hb)
    clear hb hHeld
    refine hK.out _ _ (⟨X1.out.c1, X2.out.c1, (HT1.out _ P.out).c0, (HT1.out _ P.out).c1, (HT1.out _ P.out).c2, (HT2.out _ P.out).c0, (HT2.out _ P.out).c1, (HT2.out _ P.out).c2⟩) (fun hHeld => ?_)
    clear hK K
    refine tkk 13 40 rfl rfl (by kernel_rfl) (fun _ _ _ _ h => h) (by rfl) (fun w h => by obtain ⟨h0, h1, h2, h3, h4, h5, h6, h7⟩ := h; go_simp; rfl) (by assumption) ?_
    simp only [set0, set1]
    refine tkk 14 41 rfl rfl (by kernel_rfl) (fun _ _ _ _ h => h) (by rfl) (fun w h => by obtain ⟨h0, h1, h2, h3, h4, h5, h6, h7⟩ := h; go_simp; rfl) (by assumption) ?_
    simp only [set0, set1]
    refine tkk 15 42 rfl rfl (by kernel_rfl) (fun _ _ _ _ h => h) (by rfl) (fun w h => by obtain ⟨h0, h1, h2, h3, h4, h5, h6, h7⟩ := h; go_simp; rfl) (by assumption) ?_
    simp only [set0, set1]
    refine tkk 16 43 rfl rfl (by kernel_rfl) (fun _ _ _ _ h => h) (by rfl) (fun w h => by obtain ⟨h0, h1, h2, h3, h4, h5, h6, h7⟩ := h; go_simp; rfl) (by assumption) ?_
    simp only [set0, set1]
    refine tkk 17 44 rfl rfl (by kernel_rfl) (fun _ _ _ _ h => h) (by rfl) (fun w h => by obtain ⟨h0, h1, h2, h3, h4, h5, h6, h7⟩ := h; go_simp; rfl) (by assumption) ?_
    simp only [set0, set1]
    refine tkk 18 45 rfl rfl (by kernel_rfl) (fun _ _ _ _ h => h) (by rfl) (fun w h => by obtain ⟨h0, h1, h2, h3, h4, h5, h6, h7⟩ := h; go_simp; rfl) (by assumption) ?_
    simp only [set0, set1]
    refine tkk 19 46 rfl rfl (by kernel_rfl) (fun _ _ _ _ h => h) (by rfl) (fun w h => by obtain ⟨h0, h1, h2, h3, h4, h5, h6, h7⟩ := h; go_simp; rfl) (by assumption) ?_
    simp only [set0, set1]
    refine tkk 20 47 rfl rfl (by kernel_rfl) (fun _ _ _ _ h => h) (by rfl) (fun w h => by obtain ⟨h0, h1, h2, h3, h4, h5, h6, h7⟩ := h; go_simp; rfl) (by assumption) ?_
    simp only [set0, set1]
    refine tkk 21 48 rfl rfl (by kernel_rfl) (fun _ _ _ _ h => h) (by rfl) (fun w h => by obtain ⟨h0, h1, h2, h3, h4, h5, h6, h7⟩ := h; go_simp; rfl) (by assumption) ?_
    simp only [set0, set1]
    refine tkk 22 49 rfl rfl (by kernel_rfl) (fun _ _ _ _ h => h) (by rfl) (fun w h => by obtain ⟨h0, h1, h2, h3, h4, h5, h6, h7⟩ := h; go_simp; rfl) (by assumption) ?_
    simp only [set0, set1]
    refine tkk 23 50 rfl rfl (by kernel_rfl) (fun _ _ _ _ h => h) (by rfl) (fun w h => by obtain ⟨h0, h1, h2, h3, h4, h5, h6, h7⟩ := h; go_simp; rfl) (by assumption) ?_
    simp only [set0, set1]
    refine tkk 24 51 rfl rfl (by kernel_rfl) (fun _ _ _ _ h => h) (by rfl) (fun w h => by obtain ⟨h0, h1, h2, h3, h4, h5, h6, h7⟩ := h; go_simp; rfl) (by assumption) ?_
    simp only [set0, set1]
    refine tkk 25 52 rfl rfl (by kernel_rfl) (fun _ _ _ _ h => h) (by rfl) (fun w h => by obtain ⟨h0, h1, h2, h3, h4, h5, h6, h7⟩ := h; go_simp; rfl) (by assumption) ?_
    simp only [set0, set1]
    refine tkk 26 53 rfl rfl (by kernel_rfl) (fun _ _ _ _ h => h) (by rfl) (fun w h => by obtain ⟨h0, h1, h2, h3, h4, h5, h6, h7⟩ := h; go_simp; rfl) (by assumption) ?_
    simp only [set0, set1]
    refine wpAnyH_ready (rs := [27]) (by kernel_rfl) (by simp) ?_
    refine AllReadyH.cons rfl (fun K hK => ?_) AllReadyH.nil
    go_simp
    refine (show Calls Tryz.prog 60 #[.slice B1 m1 d1, .slice B2 m2 d2] v2 (RetB true v2) from by have h := sameExps_c B1 m1 d1 B2 m2 d2 t.es t.es v2 (HT1.out _ P.out).ri (HT2.out _ P.out).ri (Nat.le_trans (HT1.out _ P.out).md (HT1.out _ P.out).dm); rw [decide_eq_true (show t.es = t.es from rfl)] at h; exact h).mono ?_
    rintro e v3 ⟨rfl, hb⟩
    replace P := Lib.hid (P.out.trans (hb.mono P.out.size))
    replace X1 := Lib.hid (X1.out.next hb)
    replace X2 := Lib.hid (X2.out.next hb)
    clear hb hHeld
    refine hK.out _ _ (⟨X1.out.c1, X2.out.c1, (HT1.out _ P.out).c0, (HT1.out _ P.out).c1, (HT1.out _ P.out).c2, (HT2.out _ P.out).c0, (HT2.out _ P.out).c1, (HT2.out _ P.out).c2⟩) (fun hHeld => ?_)
    clear hK K
    refine tkk 28 55 rfl rfl (by kernel_rfl) (fun _ _ _ _ h => h) (by rfl) (fun w h => by obtain ⟨h0, h1, h2, h3, h4, h5, h6, h7⟩ := h; go_simp; rfl) (by assumption) ?_
    simp only [set0, set1]
    refine tkk 29 56 rfl rfl (by kernel_rfl) (fun _ _ _ _ h => h) (by rfl) (fun w h => by obtain ⟨h0, h1, h2, h3, h4, h5, h6, h7⟩ := h; go_simp; rfl) (by assumption) ?_
    clear hHeld
    refine wpAnyH_done (by kernel_rfl) ?_ _
    clear HT1 HT2
    go_wp2
    go_roundw
    case measure => simp [intOf]; omega
    case rel => exact ⟨j + 1, by go_num, by omega, P.out, X1.out, X2.out⟩
  · have e : j = n := by omega
    subst e
    have t1 : decide ((j : Int) < (j : Int)) = false := decide_eq_false (by omega)
    have t1n : decide (j < j) = false := decide_eq_false (by omega)
    go_wp2
    go_ret
    exact ⟨rfl, P.out⟩
set_option maxHeartbeats 8000000 in
theorem refSameLink_t (k : Int) (A : Option Addr) (n c : Nat) (A' : Option Addr) (c' : Nat) (vs : List Int) (B : Option Addr) (m d : Nat) (B' : Option Addr) (d' : Nat) (ps : List Ply) (w : World) (h : RdI w A n vs) (h' : RdI w A' n vs) (hp : RdP w B m ps) (hp' : RdP w B' m ps) (hn : n ≤ 1000000) (hm : m ≤ 1000000) (hT : ∀ i, i < m → (plyAt ps i).ts.length ≤ 1000000 ∧ ∀ x, x < (plyAt ps i).ts.length → (trmAt (plyAt ps i).ts x).xs.length ≤ 1000000) :
 Calls Tryz.prog 50 #[aggL k A n c B m d, aggL k A' n c' B' m d'] w (RetB true w) := by
 have k0 := bel_alloc w (boxL k A n c B m d)
 have k1 := bel_alloc (w.alloc (boxL k A n c B m d)) (boxL k A' n c' B' m d')
 obtain ⟨g, hg⟩ : ∃ g, g = w.heap.size := ⟨_, rfl⟩
 have P := Lib.hid (k0.trans (k1.mono k0.size))
 have X1 := Lib.hid (show BxL ((w.alloc (boxL k A n c B m d)).alloc (boxL k A' n c' B' m d')) g k A n c B m d from by rw [hg]; exact (BxL.new w k A n c B m d).next k1)
 have X2 := Lib.hid (show BxL ((w.alloc (boxL k A n c B m d)).alloc (boxL k A' n c' B' m d')) (g + 1) k A' n c' B' m d' from by
  have e0 : (w.alloc (boxL k A n c B m d)).heap.size = g + 1 := by rw [World.size_alloc, hg]
  rw [← e0]; exact BxL.new _ k A' n c' B' m d')
 have HI := Lib.hid (And.intro (And.intro h h') (And.intro hp hp'))
 have HTS := Lib.hid hT
 clear k0 k1 h h' hp hp' hT
 go_enter Tryz.func50, Tryz.ntmps50
 go_upto_region 1 with (fail)
 generalize (w.alloc (boxL k A n c B m d)).alloc (boxL k A' n c' B' m d') = W0 at P X1 X2 ⊢
 rw [← hg]
 clear hg
 have a0 := X1.out.c0
 have a1 := X1.out.c1
 have a2 := X1.out.c2
 have b0 := X2.out.c0
 have b1 := X2.out.c1
 have b2 := X2.out.c2
 have t0 : (k != k) = false := bne_self_eq_false _
 have t1 : ((m : Int) != (m : Int)) = false := bne_self_eq_false _
 go_wp2_with fail
 refine (sameExps_c A n c A' n c' vs vs _ (HI.out.1.1.below P.out) (HI.out.1.2.below P.out) (by omega)).mono ?_
 rintro e w1 ⟨rfl, hb⟩
 rw [decide_eq_true (show vs = vs from rfl)]
 replace P := Lib.hid (P.out.trans (hb.mono P.out.size))
 replace X1 := Lib.hid (X1.out.next hb)
 replace X2 := Lib.hid (X2.out.next hb)
 clear hb a0 a1 a2 b0 b1 b2
 have a2 := X1.out.c2
 have b2 := X2.out.c2
 go_upto_region 4 with (fail)
 clear a2 b2
 go_loopw [5] (fun v wr => ∃ j : Nat, v = .int .i64 (j : Int) ∧ j ≤ m ∧ Below w.heap.size w wr ∧ BxL wr g k A n c B m d ∧ BxL wr (g + 1) k A' n c' B' m d') (fun v _ => m - (intOf v).toNat)
 case atStart => exact ⟨0, rfl, Nat.zero_le _, P.out, X1.out, X2.out⟩
 case round =>
  obtain ⟨j, rfl, hj, hp, hx1, hx2⟩ := hrel
  clear P X1 X2
  have P := Lib.hid hp
  have X1 := Lib.hid hx1
  have X2 := Lib.hid hx2
  clear hp hx1 hx2
  have a2 := X1.out.c2
  by_cases hjn : j < m
  · have t1 : decide ((j : Int) < (m : Int)) = true := decide_eq_true (by omega)
    have t1n : decide (j < m) = true := decide_eq_true hjn
    have hjI : (j : Int) < (m : Int) := by omega
    obtain ⟨b, o, rfl, hlt, hc⟩ := HI.out.2.1.at_ (by omega)
    obtain ⟨b', o', rfl, hlt', hc'⟩ := HI.out.2.2.at_ (by omega)
    obtain ⟨A1, n1, c1, hT⟩ := hc j hjn
    obtain ⟨A2, n2, c2, hT'⟩ := hc' j hjn
    have hnn : n2 = n1 := hT'.rt.len.symm.trans hT.rt.len
    subst hnn
    have HT1 := Lib.hid (show ∀ W, Below w.heap.size w W → PlyIs W b (o + j * 2) (plyAt ps j) A1 n2 c1 from fun W hb => hT.below hlt hb)
    have HT2 := Lib.hid (show ∀ W, Below w.heap.size w W → PlyIs W b' (o' + j * 2) (plyAt ps j) A2 n2 c2 from fun W hb => hT'.below hlt' hb)
    have HN2 := Lib.hid (show n2 ≤ 1000000 by have h1 := (HTS.out j hjn).1; have h2 := hT.rt.len; omega)
    have HN3 := Lib.hid (show ∀ x, x < n2 → (trmAt (plyAt ps j).ts x).xs.length ≤ 1000000 from fun x hx => (HTS.out j hjn).2 x (by have h2 := hT.rt.len; omega))
    clear hc hc' hT hT'
    obtain ⟨t, ht⟩ : ∃ u, u = plyAt ps j := ⟨_, rfl⟩
    rw [← ht] at HT1 HT2 HN3
    clear ht
    obtain ⟨pV, ts⟩ := t
    go_upto_region 6 with (fail)
    clear a2
    refine wp_region_held_drew (S := (fun w' => w'.cell? ⟨g, 2, none⟩ = some ((.slice (some ⟨b, o, none⟩) m d)) ∧ w'.cell? ⟨(g + 1), 2, none⟩ = some ((.slice (some ⟨b', o', none⟩) m d')) ∧ w'.cell? ⟨b, (o + j * 2), none⟩ = some (.int .i64 pV) ∧ w'.cell? ⟨b, (o + j * 2 + 1), none⟩ = some (.slice A1 n2 c1) ∧ w'.cell? ⟨b', (o' + j * 2), none⟩ = some (.int .i64 pV) ∧ w'.cell? ⟨b', (o' + j * 2 + 1), none⟩ = some (.slice A2 n2 c2))) (by kernel_rfl) (⟨cell_drq X1.out.c2, cell_drq X2.out.c2, cell_drq (HT1.out _ P.out).c0, cell_drq (HT1.out _ P.out).c1, cell_drq (HT2.out _ P.out).c0, cell_drq (HT2.out _ P.out).c1⟩) (fun hHeld => ?_)
    replace P := Lib.hid (P.out.trans ((Below.refl wr.heap.size wr).drew.mono P.out.size))
    replace X1 := Lib.hid (X1.out.next (Below.refl wr.heap.size wr).drew)
    replace X2 := Lib.hid (X2.out.next (Below.refl wr.heap.size wr).drew)
    generalize wr.drew = D4 at P X1 X2 hHeld ⊢
    refine tkk 0 35 rfl rfl (by kernel_rfl) (fun _ _ _ _ h => h) (by rfl) (fun w h => by obtain ⟨h0, h1, h2, h3, h4, h5⟩ := h; go_simp; rfl) (by assumption) ?_
    simp only [set0, set1]
    refine tkk 1 36 rfl rfl (by kernel_rfl) (fun _ _ _ _ h => h) (by rfl) (fun w h => by obtain ⟨h0, h1, h2, h3, h4, h5⟩ := h; go_simp; rfl) (by assumption) ?_
    simp only [set0, set1]
    refine tkk 2 37 rfl rfl (by kernel_rfl) (fun _ _ _ _ h => h) (by rfl) (fun w h => by obtain ⟨h0, h1, h2, h3, h4, h5⟩ := h; go_simp; rfl) (by assumption) ?_
    simp only [set0, set1]
    refine tkk 3 38 rfl rfl (by kernel_rfl) (fun _ _ _ _ h => h) (by rfl) (fun w h => by obtain ⟨h0, h1, h2, h3, h4, h5⟩ := h; go_simp; rfl) (by assumption) ?_
    simp only [set0, set1]
    refine tkk 4 39 rfl rfl (by kernel_rfl) (fun _ _ _ _ h => h) (by rfl) (fun w h => by obtain ⟨h0, h1, h2, h3, h4, h5⟩ := h; go_simp; rfl) (by assumption) ?_
    simp only [set0, set1]
    refine tkk 5 40 rfl rfl (by kernel_rfl) (fun _ _ _ _ h => h) (by rfl) (fun w h => by obtain ⟨h0, h1, h2, h3, h4, h5⟩ := h; go_simp; rfl) (by assumption) ?_
    simp only [set0, set1]
    refine tkk 6 41 rfl rfl (by kernel_rfl) (fun _ _ _ _ h => h) (by rfl) (fun w h => by obtain ⟨h0, h1, h2, h3, h4, h5⟩ := h; go_simp; rfl) (by assumption) ?_
    simp only [set0, set1]
    refine tkk 7 42 rfl rfl (by kernel_rfl) (fun _ _ _ _ h => h) (by rfl) (fun w h => by obtain ⟨h0, h1, h2, h3, h4, h5⟩ := h; go_simp; rfl) (by assumption) ?_
    simp only [set0, set1]
    refine tkk 8 43 rfl rfl (by kernel_rfl) (fun _ _ _ _ h => h) (by rfl) (fun w h => by obtain ⟨h0, h1, h2, h3, h4, h5⟩ := h; go_simp; rfl) (by assumption) ?_
    simp only [set0, set1]
    refine tkk 9 44 rfl rfl (by kernel_rfl) (fun _ _ _ _ h => h) (by rfl) (fun w h => by obtain ⟨h0, h1, h2, h3, h4, h5⟩ := h; go_simp; rfl) (by assumption) ?_
    simp only [set0, set1]
    refine wpAnyH_ready (rs := [10]) (by kernel_rfl) (by simp) ?_
    refine AllReadyH.cons rfl (fun K hK => ?_) AllReadyH.nil
    go_simp
    refine (refPSame_t pV A1 n2 c1 A2 c2 ts D4 (HT1.out _ P.out).rt (HT2.out _ P.out).rt HN2.out HN3.out).mono ?_
    rintro e v5 ⟨rfl, hb⟩
    replace P := Lib.hid (P.out.trans (hb.mono P.out.size))
    replace X1 := Lib.hid (X1.out.next hb)
    replace X2 := Lib.hid (X2.out.next hb)
    clear hb hHeld
    refine hK.out _ _ (⟨X1.out.c2, X2.out.c2, (HT1.out _ P.out).c0, (HT1.out _ P.out).c1, (HT2.out _ P.out).c0, (HT2.out _ P.out).c1⟩) (fun hHeld => ?_)
    clear hK K
    refine tkk 11 46 rfl rfl (by kernel_rfl) (fun _ _ _ _ h => h) (by rfl) (fun w h => by obtain ⟨h0, h1, h2, h3, h4, h5⟩ := h; go_simp; rfl) (by assumption) ?_
    clear hHeld
    refine wpAnyH_done (by kernel_rfl) ?_ _
    clear HT1 HT2
    go_wp2
    go_roundw
    case measure => simp [intOf]; omega
    case rel => exact ⟨j + 1, by go_num, by omega, P.out, X1.out, X2.out⟩
  · have e : j = m := by omega
    subst e
    have t1 : decide ((j : Int) < (j : Int)) = false := decide_eq_false (by omega)
    have t1n : decide (j < j) = false := decide_eq_false (by omega)
    go_wp2
    go_ret
    exact ⟨rfl, P.out⟩
set_option maxHeartbeats 8000000 in
theorem refSysSame_t (V : Int) (A : Option Addr) (n c : Nat) (B : Option Addr) (d : Nat) (ls : List Lnk) (w : World) (h : RdL w A n ls) (h' : RdL w B n ls) (hn : n ≤ 1000000) (hL : ∀ i, i < n → (lnkAt ls i).vs.length ≤ 1000000 ∧ (lnkAt ls i).ps.length ≤ 1000000 ∧ ∀ j, j < (lnkAt ls i).ps.length → (plyAt (lnkAt ls i).ps j).ts.length ≤ 1000000 ∧ ∀ x, x < (plyAt (lnkAt ls i).ps j).ts.length → (trmAt (plyAt (lnkAt ls i).ps j).ts x).xs.length ≤ 1000000) :
 Calls Tryz.prog 20 #[aggS V A n c, aggS V B n d] w (RetB true w) := by
 have k0 := bel_alloc w (boxS V A n c)
 have k1 := bel_alloc (w.alloc (boxS V A n c)) (boxS V B n d)
 obtain ⟨g, hg⟩ : ∃ g, g = w.heap.size := ⟨_, rfl⟩
 have P := Lib.hid (k0.trans (k1.mono k0.size))
 have X1 := Lib.hid (show BxY ((w.alloc (boxS V A n c)).alloc (boxS V B n d)) g V A n c from by rw [hg]; exact (BxY.new w V A n c).next k1)
 have X2 := Lib.hid (show BxY ((w.alloc (boxS V A n c)).alloc (boxS V B n d)) (g + 1) V B n d from by
  have e0 : (w.alloc (boxS V A n c)).heap.size = g + 1 := by rw [World.size_alloc, hg]
  rw [← e0]; exact BxY.new _ V B n d)
 have HI := Lib.hid (And.intro h h')
 have HLS := Lib.hid hL
 clear k0 k1 h h' hL
 go_enter Tryz.func20, Tryz.ntmps20
 go_upto_region 1 with (fail)
 generalize (w.alloc (boxS V A n c)).alloc (boxS V B n d) = W0 at P X1 X2 ⊢
 rw [← hg]
 clear hg
 have a0 := X1.out.c0
 have a1 := X1.out.c1
 have b0 := X2.out.c0
 have b1 := X2.out.c1
 have t0 : (V != V) = false := bne_self_eq_false _
 have t1 : ((n : Int) != (n : Int)) = false := bne_self_eq_false _
 go_upto_region 4 with (fail)
 clear a0 a1 b0 b1
 go_loopw [5] (fun v wr => ∃ j : Nat, v = .int .i64 (j : Int) ∧ j ≤ n ∧ Below w.heap.size w wr ∧ BxY wr g V A n c ∧ BxY wr (g + 1) V B n d) (fun v _ => n - (intOf v).toNat)
 case atStart => exact ⟨0, rfl, Nat.zero_le _, P.out, X1.out, X2.out⟩
 case round =>
  obtain ⟨j, rfl, hj, hp, hx1, hx2⟩ := hrel
  clear P X1 X2
  have P := Lib.hid hp
  have X1 := Lib.hid hx1
  have X2 := Lib.hid hx2
  clear hp hx1 hx2
  have a1 := X1.out.c1
  by_cases hjn : j < n
  · have t1 : decide ((j : Int) < (n : Int)) = true := decide_eq_true (by omega)
    have t1n : decide (j < n) = true := decide_eq_true hjn
    have hjI : (j : Int) < (n : Int) := by omega
    obtain ⟨b, o, rfl, hlt, hc⟩ := HI.out.1.at_ (by omega)
    obtain ⟨b', o', rfl, hlt', hc'⟩ := HI.out.2.at_ (by omega)
    obtain ⟨A1, n1, c1, B1, m1, d1, hT⟩ := hc j hjn
    obtain ⟨A2, n2, c2, B2, m2, d2, hT'⟩ := hc' j hjn
    have hnn : n2 = n1 := hT'.ri.len.symm.trans hT.ri.len
    have hmm : m2 = m1 := hT'.rp.len.symm.trans hT.rp.len
    subst hnn hmm
    have HT1 := Lib.hid (show ∀ W, Below w.heap.size w W → LnkIs W b (o + j * 3) (lnkAt ls j) A1 n2 c1 B1 m2 d1 from fun W hb => hT.below hlt hb)
    have HT2 := Lib.hid (show ∀ W, Below w.heap.size w W → LnkIs W b' (o' + j * 3) (lnkAt ls j) A2 n2 c2 B2 m2 d2 from fun W hb => hT'.below hlt' hb)
    have HLJ := Lib.hid (HLS.out j hjn)
    have HLN := Lib.hid (show (lnkAt ls j).vs.length = n2 ∧ (lnkAt ls j).ps.length = m2 from ⟨hT.ri.len, hT.rp.len⟩)
    clear hc hc' hT hT'
    obtain ⟨t, ht⟩ : ∃ u, u = lnkAt ls j := ⟨_, rfl⟩
    rw [← ht] at HT1 HT2 HLJ HLN
    clear ht
    obtain ⟨k9, vs, ps⟩ := t
    go_upto_region 6 with (fail)
    clear a1
    refine wp_region_held_drew (S := (fun w' => w'.cell? ⟨g, 1, none⟩ = some ((.slice (some ⟨b, o, none⟩) n c)) ∧ w'.cell? ⟨(g + 1), 1, none⟩ = some ((.slice (some ⟨b', o', none⟩) n d)) ∧ w'.cell? ⟨b, (o + j * 3), none⟩ = some (.int .i64 k9) ∧ w'.cell? ⟨b, (o + j * 3 + 1), none⟩ = some (.slice A1 n2 c1) ∧ w'.cell? ⟨b, (o + j * 3 + 2), none⟩ = some (.slice B1 m2 d1) ∧ w'.cell? ⟨b', (o' + j * 3), none⟩ = some (.int .i64 k9) ∧ w'.cell? ⟨b', (o' + j * 3 + 1), none⟩ = some (.slice A2 n2 c2) ∧ w'.cell? ⟨b', (o' + j * 3 + 2), none⟩ = some (.slice B2 m2 d2))) (by kernel_rfl) (⟨cell_drq X1.out.c1, cell_drq X2.out.c1, cell_drq (HT1.out _ P.out).c0, cell_drq (HT1.out _ P.out).c1, cell_drq (HT1.out _ P.out).c2, cell_drq (HT2.out _ P.out).c0, cell_drq (HT2.out _ P.out).c1, cell_drq (HT2.out _ P.out).c2⟩) (fun hHeld => ?_)
    replace P := Lib.hid (P.out.trans ((Below.refl wr.heap.size wr).drew.mono P.out.size))
    replace X1 := Lib.hid (X1.out.next (Below.refl wr.heap.size wr).drew)
    replace X2 := Lib.hid (X2.out.next (Below.refl wr.heap.size wr).drew)
    generalize wr.drew = D6 at P X1 X2 hHeld ⊢
    refine tkk 0 27 rfl rfl (by kernel_rfl) (fun _ _ _ _ h => h) (by rfl) (fun w h => by obtain ⟨h0, h1, h2, h3, h4, h5, h6, h7⟩ := h; go_simp; rfl) (by assumption) ?_
    simp only [set0, set1]
    refine tkk 1 28 rfl rfl (by kernel_rfl) (fun _ _ _ _ h => h) (by rfl) (fun w h => by obtain ⟨h0, h1, h2, h3, h4, h5, h6, h7⟩ := h; go_simp; rfl) (by assumption) ?_
    simp only [set0, set1]
    refine tkk 2 29 rfl rfl (by kernel_rfl) (fun _ _ _ _ h => h) (by rfl) (fun w h => by obtain ⟨h0, h1, h2, h3, h4, h5, h6, h7⟩ := h; go_simp; rfl) (by assumption) ?_
    simp only [set0, set1]
    refine tkk 3 30 rfl rfl (by kernel_rfl) (fun _ _ _ _ h => h) (by rfl) (fun w h => by obtain ⟨h0, h1, h2, h3, h4, h5, h6, h7⟩ := h; go_simp; rfl) (by assumption) ?_
    simp only [set0, set1]
    refine tkk 4 31 rfl rfl (by kernel_rfl) (fun _ _ _ _ h => h) (by rfl) (fun w h => by obtain ⟨h0, h1, h2, h3, h4, h5, h6, h7⟩ := h; go_simp; rfl) (by assumption) ?_
    simp only [set0, set1]
    refine tkk 5 32 rfl rfl (by kernel_rfl) (fun _ _ _ _ h => h) (by rfl) (fun w h => by obtain ⟨h0, h1, h2, h3, h4, h5, h6, h7⟩ := h; go_simp; rfl) (by assumption) ?_
    simp only [set0, set1]
    refine tkk 6 33 rfl rfl (by kernel_rfl) (fun _ _ _ _ h => h) (by rfl) (fun w h => by obtain ⟨h0, h1, h2, h3, h4, h5, h6, h7⟩ := h; go_simp; rfl) (by assumption) ?_
    simp only [set0, set1]
    refine tkk 7 34 rfl rfl (by kernel_rfl) (fun _ _ _ _ h => h) (by rfl) (fun w h => by obtain ⟨h0, h1, h2, h3, h4, h5, h6, h7⟩ := h; go_simp; rfl) (by assumption) ?_
    simp only [set0, set1]
    refine tkk 8 35 rfl rfl (by kernel_rfl) (fun _ _ _ _ h => h) (by rfl) (fun w h => by obtain ⟨h0, h1, h2, h3, h4, h5, h6, h7⟩ := h; go_simp; rfl) (by assumption) ?_
    simp only [set0, set1]
    refine tkk 9 36 rfl rfl (by kernel_rfl) (fun _ _ _ _ h => h) (by rfl) (fun w h => by obtain ⟨h0, h1, h2, h3, h4, h5, h6, h7⟩ := h; go_simp; rfl) (by assumption) ?_
    simp only [set0, set1]
    refine wpAnyH_ready (rs := [10]) (by kernel_rfl) (by simp) ?_
    refine AllReadyH.cons rfl (fun K hK => ?_) AllReadyH.nil
    go_simp
    refine (refSameLink_t k9 A1 n2 c1 A2 c2 vs B1 m2 d1 B2 d2 ps D6 (HT1.out _ P.out).ri (HT2.out _ P.out).ri (HT1.out _ P.out).rp (HT2.out _ P.out).rp (by have h1 := HLJ.out.1; have h2 := HLN.out.1; dsimp only at h1 h2; omega) (by have h1 := HLJ.out.2.1; have h2 := HLN.out.2; dsimp only at h1 h2; omega) (fun i hi => HLJ.out.2.2 i (by have h2 := HLN.out.2; dsimp only at h2 ⊢; omega))).mono ?_
    rintro e v7 ⟨rfl, hb⟩
    replace P := Lib.hid (P.out.trans (hb.mono P.out.size))
    replace X1 := Lib.hid (X1.out.next hb)
    replace X2 := Lib.hid (X2.out.next hb)
    clear hb hHeld
    refine hK.out _ _ (⟨X1.out.c1, X2.out.c1, (HT1.out _ P.out).c0, (HT1.out _ P.out).c1, (HT1.out _ P.out).c2, (HT2.out _ P.out).c0, (HT2.out _ P.out).c1, (HT2.out _ P.out).c2⟩) (fun hHeld => ?_)
    clear hK K
    refine tkk 11 38 rfl rfl (by kernel_rfl) (fun _ _ _ _ h => h) (by rfl) (fun w h => by obtain ⟨h0, h1, h2, h3, h4, h5, h6, h7⟩ := h; go_simp; rfl) (by assumption) ?_
    clear hHeld
    refine wpAnyH_done (by kernel_rfl) ?_ _
    clear HT1 HT2
    go_wp2
    go_roundw
    case measure => simp [intOf]; omega
    case rel => exact ⟨j + 1, by go_num, by omega, P.out, X1.out, X2.out⟩
  · have e : j = n := by omega
    subst e
    have t1 : decide ((j : Int) < (j : Int)) = false := decide_eq_false (by omega)
    have t1n : decide (j < j) = false := decide_eq_false (by omega)
    go_wp2
    go_ret
    exact ⟨rfl, P.out⟩
theorem lightBig_c (V : Int) (A : Option Addr) (n c : Nat) (X : Option Addr) (nx cx : Nat) (most : Int) (w : World) (hn : 400 < n) (hn2 : n ≤ 9223372036854775807) :
 Calls Tryz.prog 18 #[aggS V A n c, .slice X nx cx, .int .i64 most] w (RetB false w) := by
 have k1 := bel_alloc w (boxS V A n c)
 have X0 := Lib.hid (show SL w (w.alloc (boxS V A n c)) w.heap.size V A n c from ⟨k1, BxY.new w V A n c⟩)
 clear k1
 go_enter Tryz.func18, Tryz.ntmps18
 go_upto_region 1 with (fail)
 generalize w.alloc (boxS V A n c) = W0 at X0 ⊢
 obtain ⟨g, hg⟩ : ∃ g, g = w.heap.size := ⟨_, rfl⟩
 rw [← hg] at X0 ⊢
 clear hg
 have a1 := X0.out.bx.c1
 have t1 : decide ((400 : Int) < (n : Int)) = true := decide_eq_true (by omega)
 have t1n : decide (400 < n) = true := decide_eq_true hn
 go_wp2
 go_ret
 exact ⟨rfl, X0.out.low⟩
theorem lnk_l {ls ls' : List Lnk} {i : Nat} (h : i < ls.length) : lnkAt (ls ++ ls') i = lnkAt ls i := by
 unfold lnkAt; rw [List.getD_eq_getElem?_getD, List.getD_eq_getElem?_getD, List.getElem?_append_left h]
theorem lnk_r {ls ls' : List Lnk} {i : Nat} (h : ¬ i < ls.length) : lnkAt (ls ++ ls') i = lnkAt ls' (i - ls.length) := by
 unfold lnkAt; rw [List.getD_eq_getElem?_getD, List.getD_eq_getElem?_getD, List.getElem?_append_right (by omega)]
theorem lnk_all {ls ls' : List Lnk} (p : Lnk → Prop) : (∀ i, i < (ls ++ ls').length → p (lnkAt (ls ++ ls') i)) ↔ (∀ i, i < ls.length → p (lnkAt ls i)) ∧ ∀ i, i < ls'.length → p (lnkAt ls' i) := by
 constructor
 · intro h
   refine ⟨fun i hi => ?_, fun i hi => ?_⟩
   · have := h i (by rw [List.length_append]; omega)
     rwa [lnk_l hi] at this
   · have := h (ls.length + i) (by rw [List.length_append]; omega)
     rwa [lnk_r (by omega), show ls.length + i - ls.length = i by omega] at this
 · rintro ⟨h1, h2⟩ i hi
   rw [List.length_append] at hi
   by_cases q : i < ls.length
   · rw [lnk_l q]; exact h1 i q
   · rw [lnk_r q]; exact h2 _ (by omega)
theorem valid_app {ls ls' : List Lnk} {V : Int} (h : validS V ls = true) (h' : validS V ls' = true) (hl : ls.length + ls'.length ≤ 20000) : validS V (ls ++ ls') = true := by
 have b := vs_bounds h
 have e := (lnk_all (fun l => validLnk l V = true)).2 ⟨fun i hi => vs_at h hi, fun i hi => vs_at h' hi⟩
 simp only [validS, Bool.and_eq_true, decide_eq_true_eq]
 exact ⟨⟨b.1, b.2.1, by rw [List.length_append]; exact hl⟩, e⟩
theorem holds_app (ls ls' : List Lnk) (ns : List Nmr) : holdsB (ls ++ ls') ns = (holdsB ls ns && holdsB ls' ns) := by
 have e := lnk_all (ls := ls) (ls' := ls') (fun l => linkB l ns = true)
 unfold holdsB
 by_cases q1 : ∀ i, i < ls.length → linkB (lnkAt ls i) ns = true
 · by_cases q2 : ∀ i, i < ls'.length → linkB (lnkAt ls' i) ns = true
   · rw [decide_eq_true q1, decide_eq_true q2, decide_eq_true (e.2 ⟨q1, q2⟩)]; rfl
   · rw [decide_eq_true q1, decide_eq_false q2, decide_eq_false (fun h => q2 (e.1 h).2)]; rfl
 · rw [decide_eq_false q1, decide_eq_false (fun h => q1 (e.1 h).1)]; rfl
def AllT (ls : List Lnk) (ns : List Nmr) (T : Nat) : Prop := ∀ i, i < ls.length → ∀ j, j < (lnkAt ls i).ps.length → allV (plyAt (lnkAt ls i).ps j).ts (ownOf (lnkAt ls i).vs ns) (plyAt (lnkAt ls i).ps j).ts.length ≤ T
theorem AllT.app {ls ls' : List Lnk} {ns : List Nmr} {T : Nat} (h : AllT ls ns T) (h' : AllT ls' ns T) : AllT (ls ++ ls') ns T :=
 (lnk_all (fun l => ∀ j, j < l.ps.length → allV (plyAt l.ps j).ts (ownOf l.vs ns) (plyAt l.ps j).ts.length ≤ T)).2 ⟨h, h'⟩
theorem AllT.le {ls : List Lnk} {ns : List Nmr} {T T' : Nat} (h : AllT ls ns T) (ht : T ≤ T') : AllT ls ns T' := fun i hi j hj => Nat.le_trans (h i hi j hj) ht
theorem AllT.ex (ls : List Lnk) (ns : List Nmr) : ∃ T, AllT ls ns T := bound_two9 (fun i j => allV (plyAt (lnkAt ls i).ps j).ts (ownOf (lnkAt ls i).vs ns) (plyAt (lnkAt ls i).ps j).ts.length) (fun i => (lnkAt ls i).ps.length) ls.length
theorem bound_join {w : World} {V : Int} {A A' : Option Addr} {n n' : Nat} {ls ls' : List Lnk} {X : Option Addr} {nx : Nat} {ns : List Nmr} (h : RdL w A n ls) (h' : RdL w A' n' ls') (hx : RdN w X nx ns) (hv : validS V ls = true) (hv' : validS V ls' = true) (hs : (nx : Int) = V → allB ns = true → sysMost ls ns ls.length 300) (hs' : (nx : Int) = V → allB ns = true → sysMost ls' ns ls'.length 300) :
 ∃ T, AllT ls ns T ∧ AllT ls' ns T ∧ AllT (ls ++ ls') ns T ∧ ((nx : Int) = V → allB ns = true → T = pw 600) := by
 by_cases q : (nx : Int) = V ∧ allB ns = true
 · have h1 : AllT ls ns (pw 600) := sys_short h hx hv q.1 (hs q.1 q.2) (by omega)
   have h2 : AllT ls' ns (pw 600) := sys_short h' hx hv' q.1 (hs' q.1 q.2) (by omega)
   exact ⟨pw 600, h1, h2, h1.app h2, fun _ _ => rfl⟩
 · obtain ⟨T1, h1⟩ := AllT.ex ls ns
   obtain ⟨T2, h2⟩ := AllT.ex ls' ns
   have h3 := h1.le (Nat.le_add_right T1 T2)
   have h4 := h2.le (Nat.le_add_left T2 T1)
   exact ⟨T1 + T2, h3, h4, h3.app h4, fun a b => absurd ⟨a, b⟩ q⟩
theorem lens_of {l : Lnk} {V : Int} (h : validLnk l V = true) : l.vs.length ≤ 1000000 ∧ l.ps.length ≤ 1000000 ∧ ∀ j, j < l.ps.length → (plyAt l.ps j).ts.length ≤ 1000000 ∧ ∀ x, x < (plyAt l.ps j).ts.length → (trmAt (plyAt l.ps j).ts x).xs.length ≤ 1000000 := by
 obtain ⟨kind, vs, ps⟩ := l
 have h1 := vl_lens h
 refine ⟨by dsimp only; omega, ?_, fun j hj => ?_⟩
 · have h2 := h1.2.2.1
   dsimp only
   unfold polysOf at h2
   split at h2
   · omega
   · split at h2 <;> omega
 · have h3 := ply_copy h hj
   dsimp only
   refine ⟨by omega, fun x hx => ?_⟩
   have h4 := raw_le (h3.2 x hx).1
   omega
theorem run_app_K {w0 W : World} {B : Nat} {A : Option Addr} {j c : Nat} {xs : List Lnk} (ty : TypeId) (h : OwG 51 3 (CRw w0) W B A j c xs) (hB : B ≤ W.heap.size) (A' : Option Addr) (n' c' : Nat) (ls : List Lnk) (hr : RdL w0 A' n' ls) (hb : Below w0.heap.size w0 W) (hj : j ≤ 1000000) (hn : n' ≤ 1000000) :
 ∃ L2 c2 W2, (Builtin.append_ #[22, 22] ty #[.slice A j c, .slice A' n' c']).run Tryz.prog W = .ok (.slice L2 (j + n') c2) W2 ∧ OwG 51 3 (CRw w0) W2 B L2 (j + n') c2 (xs ++ ls) ∧ Below B W W2 ∧ ChgR 51 W W2 := by
 obtain ⟨i, z, bytes, i1, i2, i3, i4, i5, i6, i7, i8, i9⟩ := infK
 rcases Nat.eq_zero_or_pos n' with rfl | h0
 · have hz : ls = [] := List.length_eq_zero_iff.1 hr.len
   subst hz
   have hjc := h.cap.1
   refine ⟨A, c, W, ?_, by rw [List.append_nil]; exact h, Below.refl _ _, ChgR.of_below (Below.refl _ _)⟩
   rcases A' with _ | a <;> rcases A with _ | l <;> simp [Builtin.append_, run_underlying i1, sizeOf, typeInfo, i2, Builtin.lenOf, Builtin.firstCells, loadCells, loadCellsFrom, storeCells, hjc]
 · obtain ⟨b1, o1, e1, el⟩ := rdL_el hr h0 hb
   subst e1
   obtain ⟨hyl, G, hG⟩ := el
   obtain ⟨g2, c2, W2, h1, h2, h3, h4, -⟩ := run_app_g CRw.chg i9 22 ty i z bytes i1 i2 i3 i4 i5 i6 i7 i8 h hB b1 o1 n' c' G ls hyl h0 hG hj hn
   exact ⟨some ⟨g2, 0, none⟩, c2, W2, h1, h2, h3, h4⟩
theorem step_app_K {w0 w : World} {ops : Array Oper} {o : Oper} {a : Act} {K : Act → World → Prop} {Q : Exit → Act → World → Prop} {E : Prop} (hgd : o.guard = none) (s y : Operand)
 (ho : o.op = .call { callee := .builtin .append, args := #[s, y], argTypes := #[22, 22] })
 {B : Nat} {A : Option Addr} {j c : Nat} {xs : List Lnk} (A' : Option Addr) (n' c' : Nat) (ls : List Lnk) (hs : a.eval s = .slice A j c) (hy : a.eval y = .slice A' n' c') (h : OwG 51 3 (CRw w0) w B A j c xs) (hB : B ≤ w.heap.size) (hr : RdL w0 A' n' ls) (hb : Below w0.heap.size w0 w) (hj : j ≤ 1000000) (hn : n' ≤ 1000000)
 (hk : ∀ L2 c2 w', OwG 51 3 (CRw w0) w' B L2 (j + n') c2 (xs ++ ls) → Below B w w' → ChgR 51 w w' → K (a.put o.dst (.slice L2 (j + n') c2)) w') :
 if Region.wanted o (yielded ops a.tmps) = true then Oper.wp Tryz.prog o a w K Q else E := by
 have hw2 : Region.wanted o (yielded ops a.tmps) = true := by simp [Region.wanted, hgd]
 rw [if_pos hw2]
 obtain ⟨L2, c2, w', hrun, h1, h2, h3⟩ := run_app_K o.type h hB A' n' c' ls hr hb hj hn
 unfold Oper.wp execOp
 simp only [ho, resolve, invoke, builtin, Sem.run_bind, Sem.run_pure, Result.andThen_ok, List.map_toArray, List.map_cons, List.map_nil, hs, hy, hrun]
 exact hk L2 c2 w' h1 h2 h3
end Go.Proofs.YteabokkofoomkaaGreat

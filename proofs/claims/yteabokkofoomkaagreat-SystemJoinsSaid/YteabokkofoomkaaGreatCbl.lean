import Derived.Test.YteabokkofoomkaaGreatCak
import Derived.Test.YteabokkofoomkaaGreatCbj
import Derived.Test.YteabokkofoomkaaGreatCbk
import Derived.Test.YteabokkofoomkaaGreatCbh
set_option maxRecDepth 100000
namespace Go.Proofs.YteabokkofoomkaaGreat
open Go.RowKit Go.Shelf Go.Deep
def JoinOk (V : Int) (ls : List Lnk) (n : Nat) (w : World) (e : Ending) (w' : World) : Prop :=
 ∃ L c, e = .returned (.tuple #[aggS V L n c, .int .i64 0]) ∧ RdL w' L n ls ∧ n ≤ c ∧ c ≤ 9223372036854775807 ∧ Below w.heap.size w w'
structure JoinQ (V : Int) (ls : List Lnk) (V' : Int) (ls' : List Lnk) (w : World) (e : Ending) (w' : World) : Prop where
 form : (validS V ls && validS V' ls') = false → e = .returned (.tuple #[aggS 0 none 0 0, .int .i64 1]) ∧ Below w.heap.size w w'
 arg : (validS V ls && validS V' ls') = true → V ≠ V' → e = .returned (.tuple #[aggS 0 none 0 0, .int .i64 2]) ∧ Below w.heap.size w w'
 ok : (validS V ls && validS V' ls') = true → V = V' → JoinOk V (ls ++ ls') (ls ++ ls').length w e w'
structure SJ (w W : World) (g : Nat) (V : Int) (A : Option Addr) (n c : Nat) (V' : Int) (A' : Option Addr) (n' c' : Nat) : Prop where
 low : Below w.heap.size w W
 va : VB W g #[.int .i64 V, .slice A n c] 24
 vb : VB W (g + 1) #[.int .i64 V', .slice A' n' c'] 24
 rr : VB W (g + 2) #[.int .i64 0, .slice none 0 0] 24
structure SK (w W : World) (g gs : Nat) (V : Int) (L : Option Addr) (j cL : Nat) : Prop where
 low : Below w.heap.size w W
 rr : VB W (g + 2) #[.int .i64 0, .slice none 0 0] 24
 vs : VB W gs #[.int .i64 V, .slice L j cL] 24
structure ButV (gs : Nat) (w W : World) : Prop where
 size : w.heap.size ≤ W.heap.size
 blk : ∀ q, q < w.heap.size → q ≠ gs → W.heap[q]? = w.heap[q]?
theorem ButV.low {gs : Nat} {w W W' : World} (h : ButV gs w W) (hb : Below w.heap.size W W') : ButV gs w W' := ⟨Nat.le_trans h.size hb.size, fun q hq hn => (hb.block q hq).trans (h.blk q hq hn)⟩
theorem ButV.set {gs : Nat} {w W : World} (h : ButV gs w W) (o : Nat) (u : Value) : ButV gs w (W.setCell ⟨gs, o, none⟩ u) := ⟨by rw [World.size_setCell]; exact h.size, fun q hq hn => (Below.heap_setCell W ⟨gs, o, none⟩ u q hn).trans (h.blk q hq hn)⟩
section
variable {w W W' : World} {g : Nat} {V : Int} {A : Option Addr} {n c : Nat} {V' : Int} {A' : Option Addr} {n' c' : Nat} {L : Option Addr} {j cL : Nat}
theorem SJ.next (h : SJ w W g V A n c V' A' n' c') (hb : Below W.heap.size W W') : SJ w W' g V A n c V' A' n' c' :=
 ⟨h.low.trans (hb.mono h.low.size), h.va.next hb, h.vb.next hb, h.rr.next hb⟩
variable {gs : Nat}
theorem SK.next (h : SK w W g gs V L j cL) (hb : Below W.heap.size W W') : SK w W' g gs V L j cL :=
 ⟨h.low.trans (hb.mono h.low.size), h.rr.next hb, h.vs.next hb⟩
theorem SK.under (h : SK w W g gs V L j cL) (hg : w.heap.size ≤ g) (h2 : g + 2 < gs) (hb : Below (gs + 1) W W') : SK w W' g gs V L j cL :=
 ⟨h.low.trans (hb.mono (by omega)), h.rr.low (by omega) hb, h.vs.low (by omega) hb⟩
theorem SK.put (h : SK w W g gs V L j cL) (hg : w.heap.size ≤ g) (h2 : g + 2 < gs) (L' : Option Addr) (j' c' : Nat) : SK w (W.setCell ⟨gs, 1, none⟩ (.slice L' j' c')) g gs V L' j' c' :=
 ⟨h.low.setCell (p := ⟨gs, 1, none⟩) (by show w.heap.size ≤ gs; omega) _, h.rr.far (p := ⟨gs, 1, none⟩) (by show g + 2 ≠ gs; omega) _, h.vs.put 1 (.slice L' j' c')⟩
end
theorem lnk_app {ls ls' : List Lnk} {V : Int} (h : validS V ls = true) (h' : validS V ls' = true) {j : Nat} (hj : j < (ls ++ ls').length) : validLnk (lnkAt (ls ++ ls') j) V = true := by
 rw [List.length_append] at hj
 by_cases q : j < ls.length
 · have e : lnkAt (ls ++ ls') j = lnkAt ls j := by unfold lnkAt; rw [List.getD_eq_getElem?_getD, List.getD_eq_getElem?_getD, List.getElem?_append_left q]
   rw [e]; exact vs_at h q
 · have e : lnkAt (ls ++ ls') j = lnkAt ls' (j - ls.length) := by unfold lnkAt; rw [List.getD_eq_getElem?_getD, List.getD_eq_getElem?_getD, List.getElem?_append_right (by omega)]
   rw [e]; exact vs_at h' (by omega)
theorem ply_copy {kind : Int} {vs : List Int} {ps : List Ply} {V : Int} (h : validLnk ⟨kind, vs, ps⟩ V = true) {k : Nat} (hk : k < ps.length) : (plyAt ps k).ts.length ≤ 3000 ∧ ∀ i, i < (plyAt ps k).ts.length → validB (trmAt (plyAt ps k).ts i).s (trmAt (plyAt ps k).ts i).xs = true ∧ (trmAt (plyAt ps k).ts i).es.length ≤ 1000000 := by
 have h1 := (vl_polys h k hk).2
 have h2 := vp_bounds h1
 refine ⟨h2.2.2, fun i hi => ?_⟩
 have h3 := vp_at h1 hi
 refine ⟨(vt_coef h3).1, ?_⟩
 simp only [validTrm, validExps, Bool.and_eq_true, decide_eq_true_eq] at h3
 have h4 := h3.2.1.1
 omega
theorem take_lnk {l : List Lnk} {j : Nat} (h : j < l.length) : l.take j ++ [lnkAt l j] = l.take (j + 1) := by
 rw [List.take_add_one, List.getElem?_eq_getElem h]
 unfold lnkAt
 rw [List.getD_eq_getElem?_getD, List.getElem?_eq_getElem h]
 rfl
theorem take_ply {l : List Ply} {j : Nat} (h : j < l.length) : l.take j ++ [plyAt l j] = l.take (j + 1) := by
 rw [List.take_add_one, List.getElem?_eq_getElem h]
 unfold plyAt
 rw [List.getD_eq_getElem?_getD, List.getElem?_eq_getElem h]
 rfl
set_option maxHeartbeats 16000000 in
theorem sysJoin_c (V : Int) (A : Option Addr) (n c : Nat) (ls : List Lnk) (V' : Int) (A' : Option Addr) (n' c' : Nat) (ls' : List Lnk) (w : World) (h : RdL w A n ls) (h' : RdL w A' n' ls') (hnn : n + n' ≤ 20000) :
 Calls Tryz.prog 19 #[aggS V A n c, aggS V' A' n' c'] w (JoinQ V ls V' ls' w) := by
 have k0 := bel_alloc w (boxS V A n c)
 have k1 := bel_alloc (w.alloc (boxS V A n c)) (boxS V' A' n' c')
 have k2 := bel_alloc ((w.alloc (boxS V A n c)).alloc (boxS V' A' n' c')) (boxS 0 none 0 0)
 obtain ⟨g, hg⟩ : ∃ g, g = w.heap.size := ⟨_, rfl⟩
 have X := Lib.hid (show SJ w (((w.alloc (boxS V A n c)).alloc (boxS V' A' n' c')).alloc (boxS 0 none 0 0)) g V A n c V' A' n' c' from by
  have e0 : (w.alloc (boxS V A n c)).heap.size = g + 1 := by rw [World.size_alloc, hg]
  have e1 : ((w.alloc (boxS V A n c)).alloc (boxS V' A' n' c')).heap.size = g + 2 := by rw [World.size_alloc, e0]
  refine ⟨(k0.trans (k1.mono k0.size)).trans (k2.mono (Nat.le_trans k0.size k1.size)), ?_, ?_, ?_⟩
  · rw [hg]; exact ((VB.new w _ _).next k1).next k2
  · rw [← e0]; exact (VB.new _ _ _).next k2
  · rw [← e1]; exact VB.new _ _ _)
 have HI := Lib.hid (And.intro h h')
 have HL := Lib.hid (And.intro h.len h'.len)
 have HS3 := Lib.hid (show (((w.alloc (boxS V A n c)).alloc (boxS V' A' n' c')).alloc (boxS 0 none 0 0)).heap.size = g + 3 by rw [World.size_alloc, World.size_alloc, World.size_alloc, hg])
 have HG := Lib.hid (show w.heap.size ≤ g by omega)
 clear k0 k1 k2 h h'
 go_enter Tryz.func19, Tryz.ntmps19
 go_upto_region 1 with (fail)
 generalize ((w.alloc (boxS V A n c)).alloc (boxS V' A' n' c')).alloc (boxS 0 none 0 0) = W0 at X HS3 ⊢
 rw [← hg]
 clear hg
 have a0 := X.out.va.c0
 have a1 := X.out.va.c1
 go_wp2_with fail
 refine (sysValid_c V A n c ls _ (HI.out.1.below X.out.low)).mono ?_
 rintro e w1 ⟨rfl, hb⟩
 have HW1 := Lib.hid hb
 replace X := Lib.hid (X.out.next hb)
 clear hb a0 a1
 obtain ⟨v, hv⟩ : ∃ v, v = validS V ls := ⟨_, rfl⟩
 rw [← hv]
 have HV := Lib.hid hv
 clear hv
 cases v with
 | false =>
   have HF := Lib.hid (show (validS V ls && validS V' ls') = false by rw [← HV.out]; rfl)
   have r0 := X.out.rr.c0
   have r1 := X.out.rr.c1
   have f0 := X.out.rr.fr 0
   have f1 := X.out.rr.fr 1
   go_wp2
   have y1 := X.out.rr.put 0 (.int .i64 0)
   have y2 := y1.put 1 (.slice none 0 0)
   have q0 := y2.cell 0
   have q1 := y2.cell 1
   refine bodyPost_ret (v := .tuple #[aggS 0 none 0 0, .int .i64 1]) (by simp [results, Tryz.results19, go_sem, q0, q1]) rfl ?_
   exact ⟨fun _ => ⟨rfl, below_store X.out.low (by have := HG.out; omega) _ _⟩, fun q => absurd (HF.out.symm.trans q) (by decide), fun q => absurd (HF.out.symm.trans q) (by decide)⟩
 | true =>
 have b0 := X.out.vb.c0
 have b1 := X.out.vb.c1
 go_wp2_with fail
 refine (sysValid_c V' A' n' c' ls' _ (HI.out.2.below X.out.low)).mono ?_
 rintro e w2 ⟨rfl, hb⟩
 replace X := Lib.hid (X.out.next hb)
 clear hb b0 b1 HW1
 obtain ⟨v, hv⟩ : ∃ v, v = validS V' ls' := ⟨_, rfl⟩
 rw [← hv]
 have HV2 := Lib.hid hv
 clear hv
 cases v with
 | false =>
   have HF := Lib.hid (show (validS V ls && validS V' ls') = false by rw [← HV.out, ← HV2.out]; rfl)
   have r0 := X.out.rr.c0
   have r1 := X.out.rr.c1
   have f0 := X.out.rr.fr 0
   have f1 := X.out.rr.fr 1
   go_wp2
   have y1 := X.out.rr.put 0 (.int .i64 0)
   have y2 := y1.put 1 (.slice none 0 0)
   have q0 := y2.cell 0
   have q1 := y2.cell 1
   refine bodyPost_ret (v := .tuple #[aggS 0 none 0 0, .int .i64 1]) (by simp [results, Tryz.results19, go_sem, q0, q1]) rfl ?_
   exact ⟨fun _ => ⟨rfl, below_store X.out.low (by have := HG.out; omega) _ _⟩, fun q => absurd (HF.out.symm.trans q) (by decide), fun q => absurd (HF.out.symm.trans q) (by decide)⟩
 | true =>
 have HF := Lib.hid (show (validS V ls && validS V' ls') = true by rw [← HV.out, ← HV2.out]; rfl)
 have a0 := X.out.va.c0
 have b0 := X.out.vb.c0
 by_cases hm : V = V'
 case neg =>
  have t0 : (V != V') = true := by rw [bne_iff_ne]; exact hm
  have HM := Lib.hid hm
  clear hm
  have r0 := X.out.rr.c0
  have r1 := X.out.rr.c1
  have f0 := X.out.rr.fr 0
  have f1 := X.out.rr.fr 1
  go_wp2
  have y1 := X.out.rr.put 0 (.int .i64 0)
  have y2 := y1.put 1 (.slice none 0 0)
  have q0 := y2.cell 0
  have q1 := y2.cell 1
  refine bodyPost_ret (v := .tuple #[aggS 0 none 0 0, .int .i64 2]) (by simp [results, Tryz.results19, go_sem, q0, q1]) rfl ?_
  exact ⟨fun q => absurd (HF.out.symm.trans q) (by decide), fun _ _ => ⟨rfl, below_store X.out.low (by have := HG.out; omega) _ _⟩, fun _ q => absurd q HM.out⟩
 subst hm
 have t0 : (V != V) = false := bne_self_eq_false _
 have a1 := X.out.va.c1
 have b1 := X.out.vb.c1
 have t2 : decide ((20000 : Int) < (n : Int) + (n' : Int)) = false := decide_eq_false (by omega)
 have t2n : decide (20000 < n + n') = false := decide_eq_false (by omega)
 have t2p : ¬ (20000 : Int) < (n : Int) + (n' : Int) := by omega
 have ks := bel_alloc w2 (boxS V none 0 0)
 have VS := Lib.hid (VB.new w2 #[.int .i64 V, .slice none 0 0] 24)
 have HGS := Lib.hid (show g + 2 < w2.heap.size from X.out.rr.lt)
 replace X := Lib.hid (X.out.next ks)
 clear ks
 go_upto_region 8 with (fail)
 clear t2 t2n t2p t0 a0 a1 b0 b1
 generalize w2.alloc (boxS V none 0 0) = W1 at X VS ⊢
 obtain ⟨gs, hgs⟩ : ∃ x, x = w2.heap.size := ⟨_, rfl⟩
 rw [← hgs] at VS HGS ⊢
 clear hgs
 have a1 := X.out.va.c1
 have b1 := X.out.vb.c1
 have kc := bel_alloc W1 (.cells #[.slice A n c, .slice A' n' c'] 22)
 have VC := Lib.hid (VB.new W1 #[.slice A n c, .slice A' n' c'] 22)
 have HS1 := Lib.hid (show gs < W1.heap.size from VS.out.lt)
 replace X := Lib.hid (X.out.next kc)
 replace VS := Lib.hid (VS.out.next kc)
 obtain ⟨N, hN⟩ : ∃ N, N = n + n' := ⟨_, rfl⟩
 go_wp2_with fail
 clear a1 b1
 refine (concK_c W1.heap.size A n c ls A' n' c' ls' w _ X.out.low VC.out.c0 VC.out.c1 HI.out.1 HI.out.2 (by omega)).mono ?_
 rintro e w4 ⟨LC, cC, rfl, hrow, hlo, hb⟩
 rw [← hN] at hrow ⊢
 have HROW := Lib.hid hrow
 have HLO := Lib.hid (show ∀ a, LC = some a → gs < a.block from fun a ha => by
  have h1 := hlo a ha
  have h2 := kc.size
  have h3 := HS1.out
  omega)
 have XK := Lib.hid (show SK w w4 g gs V none 0 0 from ⟨(X.out.next hb).low, (X.out.next hb).rr, VS.out.next hb⟩)
 have HNN := Lib.hid (show N ≤ 20000 ∧ (ls ++ ls').length = N by rw [List.length_append, HL.out.1, HL.out.2]; omega)
 clear hrow hlo hb kc X VS VC hN hnn HS1
 have HVV := Lib.hid (And.intro HV.out.symm HV2.out.symm)
 have hN9 : N ≤ 20000 := HNN.out.1
 obtain ⟨all, hall⟩ : ∃ x, x = ls ++ ls' := ⟨_, rfl⟩
 rw [← hall] at HROW HNN
 have HAL := Lib.hid hall
 clear hall
 obtain ⟨z4, hz4⟩ : ∃ x, x = w4.heap.size := ⟨_, rfl⟩
 have HZ4 := Lib.hid hz4
 have HGZ := Lib.hid (show gs + 1 ≤ z4 by rw [hz4]; exact XK.out.vs.lt)
 clear hz4
 go_wp2
 go_loopw [46] (fun v wr => ∃ (j cL : Nat) (L : Option Addr), v = .int .i64 (j : Int) ∧ j ≤ N ∧ SK w wr g gs V L j cL ∧ ButV gs w4 wr ∧ OwG 51 3 CLk wr z4 L j cL (all.take j)) (fun v _ => N - (intOf v).toNat)
 case atStart => exact ⟨0, 0, none, rfl, Nat.zero_le _, XK.out, ⟨Nat.le_refl _, fun _ _ _ => rfl⟩, OwG.nil _ _⟩
 case round =>
  obtain ⟨j, cL, L, rfl, hj, hx, hbv, ho⟩ := hrel
  clear XK
  have X := Lib.hid hx
  have E4 := Lib.hid hbv
  have OW := Lib.hid ho
  clear hx hbv ho
  generalize wr = W5 at X E4 OW ⊢
  by_cases hjN : j < N
  · have t1 : decide ((j : Int) < (N : Int)) = true := decide_eq_true (by omega)
    have t1n : decide (j < N) = true := decide_eq_true hjN
    have hjI : (j : Int) < (N : Int) := by omega
    obtain ⟨b, cur, rfl, hbk, hk⟩ := HROW.out.at_ (by omega)
    obtain ⟨v9, l9, hv9, hl9, ⟨⟨k9, B1, m1, d1, C1, p1, q1⟩, rfl, hR⟩, hcell⟩ := hk j hjN
    have hbb : W5.heap[b]? = w4.heap[b]? := E4.out.blk b (lt_of_some hbk) (by have h1 : gs < b := HLO.out _ rfl; omega)
    have c0 : W5.cell? ⟨b, j * 3, none⟩ = some (.int .i64 k9) := (World.cell?_of_block hbb).trans (by have h := hcell 0 _ rfl; rwa [Nat.add_zero] at h)
    have c1 : W5.cell? ⟨b, j * 3 + 1, none⟩ = some (.slice B1 m1 d1) := (World.cell?_of_block hbb).trans (hcell 1 _ rfl)
    have c2 : W5.cell? ⟨b, j * 3 + 2, none⟩ = some (.slice C1 p1 q1) := (World.cell?_of_block hbb).trans (hcell 2 _ rfl)
    have hla : lnkAt all j = l9 := getD_of hl9
    have HVL := Lib.hid (show validLnk l9 V = true by
     rw [← hla, HAL.out]
     exact lnk_app HVV.out.1 HVV.out.2 (by rw [← HAL.out, HNN.out.2]; exact hjN))
    have HLA := Lib.hid hla
    have HR9 := Lib.hid hR
    obtain ⟨kind, vs, ps⟩ := l9
    obtain rfl : k9 = kind := hR.k
    clear hbk hk hv9 hl9 hcell hbb hla hR
    have HLV := Lib.hid (vl_lens HVL.out)
    have HMV := Lib.hid (show vs.length = m1 ∧ ps.length = p1 from ⟨HR9.out.ri.len, HR9.out.rp.len⟩)
    have hp1 : p1 ≤ 3 := by
     have h1 := HLV.out.2.2.1
     have h2 := HMV.out.2
     unfold polysOf at h1
     split at h1
     · omega
     · split at h1 <;> omega
    have HS5 := Lib.hid (show z4 ≤ W5.heap.size by rw [HZ4.out]; exact E4.out.size)
    have k1 := bel_alloc W5 (boxL k9 B1 m1 d1 C1 p1 q1)
    have VL := Lib.hid (VB.new W5 #[.int .i64 k9, .slice B1 m1 d1, .slice C1 p1 q1] 51)
    have B9 := Lib.hid k1
    replace X := Lib.hid (X.out.next k1)
    clear k1
    go_upto_region 11 with (fail)
    clear c0 c1 c2
    generalize W5.alloc (boxL k9 B1 m1 d1 C1 p1 q1) = W6 at X B9 VL ⊢
    obtain ⟨gl, hgl⟩ : ∃ x, x = W5.heap.size := ⟨_, rfl⟩
    have HGL := Lib.hid hgl
    rw [← hgl] at VL ⊢
    clear hgl
    refine wp_region_tail (S := (fun w' => w'.cell? ⟨gl, 0, none⟩ = some (.int .i64 k9) ∧ w'.cell? ⟨gl, 1, none⟩ = some (.slice B1 m1 d1))) 7 (by kernel_rfl) (by kernel_rfl) (by intro c a d v w h; cases d <;> exact h) (⟨cell_drq VL.out.d0, cell_drq VL.out.d1⟩) (fun QT hT hP hHeld => ?_)
    simp only [List.extract_toArray, List.extract_eq_take_drop, List.drop_zero, Nat.sub_zero, List.take_succ_cons, List.take_zero]
    have HT := Lib.hid hT
    clear hT
    replace X := Lib.hid (X.out.next (Below.refl W6.heap.size W6).drew)
    replace B9 := Lib.hid (B9.out.trans ((Below.refl W6.heap.size W6).drew.mono B9.out.size))
    replace VL := Lib.hid (VL.out.next (Below.refl W6.heap.size W6).drew)
    generalize W6.drew = D1 at X B9 VL hHeld ⊢
    refine tkk 0 50 rfl rfl (by kernel_rfl) (hP · · _) (by rfl) (fun w h => by obtain ⟨h0, h1⟩ := h; go_simp; rfl) (by assumption) ?_
    simp only [set0, set1]
    refine tkk 1 51 rfl rfl (by kernel_rfl) (hP · · _) (by rfl) (fun w h => by obtain ⟨h0, h1⟩ := h; go_simp; rfl) (by assumption) ?_
    simp only [set0, set1]
    refine tkk 2 52 rfl rfl (by kernel_rfl) (hP · · _) (by rfl) (fun w h => by obtain ⟨h0, h1⟩ := h; go_simp; rfl) (by assumption) ?_
    simp only [set0, set1]
    refine tkk 3 53 rfl rfl (by kernel_rfl) (hP · · _) (by rfl) (fun w h => by obtain ⟨h0, h1⟩ := h; go_simp; rfl) (by assumption) ?_
    simp only [set0, set1]
    refine wpAnyH_ready (rs := [4, 6]) (by kernel_rfl) (by simp) ?_
    refine AllReadyH.cons rfl (fun K hK => ?_) ?_
    ·
     go_simp
     refine (cloneI_c B1 m1 d1 vs D1 (HR9.out.ri.below X.out.low) (by have h1 := HLV.out.2.2.2; have h2 := HMV.out.1; omega)).mono ?_
     rintro e v2 ⟨A8, c8, rfl, hri, hty, hlo8, hc8, hcm8, hb⟩
     replace X := Lib.hid (X.out.next hb)
     replace B9 := Lib.hid (B9.out.trans (hb.mono B9.out.size))
     replace VL := Lib.hid (VL.out.next hb)
     rw [HMV.out.1] at hri hty hc8 ⊢
     have I8 := Lib.hid (And.intro hri hty)
     have HC8 := Lib.hid (And.intro hc8 hcm8)
     clear hri hty hlo8 hc8 hcm8 hb hHeld
     refine hK.out _ _ (⟨VL.out.d0, VL.out.d1⟩) (fun hHeld => ?_)
     clear hK K
     refine tkk 5 55 rfl rfl (by kernel_rfl) (hP · · _) (by rfl) (fun w h => by obtain ⟨h0, h1⟩ := h; go_simp; rfl) (by assumption) ?_
     simp only [set0, set1]
     refine wpAnyH_ready (rs := [6]) (by kernel_rfl) (by simp) ?_
     refine AllReadyH.cons rfl (fun K hK => ?_) AllReadyH.nil
     go_simp
     have hb := bel_alloc v2 (boxL 0 none 0 0 none 0 0)
     have VC := Lib.hid (VB.new v2 #[.int .i64 0, .slice none 0 0, .slice none 0 0] 51)
     have HGC := Lib.hid VL.out.lt
     replace X := Lib.hid (X.out.next hb)
     replace B9 := Lib.hid (B9.out.trans (hb.mono B9.out.size))
     replace VL := Lib.hid (VL.out.next hb)
     replace I8 := Lib.hid (And.intro (I8.out.1.below hb) (I8.out.2.chg (ChgR.of_below (T := 0) hb) (by decide)))
     clear hb hHeld
     generalize v2.alloc (boxL 0 none 0 0 none 0 0) = v3 at X B9 VL I8 VC ⊢
     generalize v2.heap.size = gc at VC HGC ⊢
     refine hK.out _ _ (⟨VL.out.d0, VL.out.d1⟩) (fun hHeld => ?_)
     clear hK K
     clear hHeld
     refine wpAnyH_done (by kernel_rfl) ?_ _
     refine HT.out _ _ ?_
     clear HT hP QT
     have x0 := VC.out.d0
     have x1 := VC.out.d1
     have x2 := VC.out.d2
     have f0 := VC.out.fr 0
     have f1 := VC.out.fr 1
     have f2 := VC.out.fr 2
     refine wpList_step fun K hK => ?_
     go_simp
     refine hK _ _ ?_
     clear hK K
     refine wpList_nil ?_
     have y1 := VC.out.put 0 (.int .i64 k9)
     have y2 := y1.put 1 (.slice A8 m1 c8)
     have y3 := y2.put 2 (.slice none 0 0)
     have s1 := VC.out.set 0 (v := .int .i64 0) rfl (noW_i _) (.int .i64 k9)
     have s2 := y1.set 1 (v := .slice none 0 0) rfl (noW_s _ _ _) (.slice A8 m1 c8)
     have s3 := y2.set 2 (v := .slice none 0 0) rfl (noW_s _ _ _) (.slice none 0 0)
     have hgc : W5.heap.size ≤ gc := by have h1 := HGC.out; have h2 := HGL.out; omega
     have hz : gs + 1 ≤ gc := by have h1 := HGZ.out; have h2 := HS5.out; omega
     have hlow := (((Below.refl gc v3).setCell (p := ⟨gc, 0, none⟩) (Nat.le_refl _) (.int .i64 k9)).setCell (p := ⟨gc, 1, none⟩) (Nat.le_refl _) (.slice A8 m1 c8)).setCell (p := ⟨gc, 2, none⟩) (Nat.le_refl _) (.slice none 0 0)
     have X2 := Lib.hid (X.out.under HG.out HGS.out (hlow.mono hz))
     have B2 := Lib.hid (B9.out.trans (hlow.mono hgc))
     have VC2 := Lib.hid (show VB (((v3.setCell ⟨gc, 0, none⟩ (.int .i64 k9)).setCell ⟨gc, 1, none⟩ (.slice A8 m1 c8)).setCell ⟨gc, 2, none⟩ (.slice none 0 0)) gc #[.int .i64 k9, .slice A8 m1 c8, .slice none 0 0] 51 from y3)
     have I2 := Lib.hid (And.intro (rdI_chg I8.out.1 I8.out.2 ((s1.trans s2).trans s3) (by decide)) (I8.out.2.chg ((s1.trans s2).trans s3) (by decide)))
     have VL2 := Lib.hid (VL.out.low HGC.out hlow)
     clear x0 x1 x2 f0 f1 f2 y1 y2 y3 s1 s2 s3 hlow X B9 VC I8 VL hgc hz
     generalize (((v3.setCell ⟨gc, 0, none⟩ (.int .i64 k9)).setCell ⟨gc, 1, none⟩ (.slice A8 m1 c8)).setCell ⟨gc, 2, none⟩ (.slice none 0 0)) = W7 at X2 B2 VC2 I2 VL2 ⊢
     have X := X2
     have B9 := B2
     have VC := VC2
     have I8 := I2
     clear X2 B2 VC2 I2
     have l2 := VL2.out.d2
     go_wp2
     clear l2 VL2
     go_loopw [59] (fun v wr => ∃ (k cP : Nat) (P : Option Addr), v = .int .i64 (k : Int) ∧ k ≤ p1 ∧ SK w wr g gs V L j cL ∧ Below W5.heap.size W5 wr ∧ VB wr gc #[.int .i64 k9, .slice A8 m1 c8, .slice P k cP] 51 ∧ (RdI wr A8 m1 vs ∧ TyB wr 3 A8 m1) ∧ OwG 45 2 CPl wr W5.heap.size P k cP (ps.take k)) (fun v _ => p1 - (intOf v).toNat)
     case atStart => exact ⟨0, 0, none, rfl, Nat.zero_le _, X.out, B9.out, VC.out, I8.out, OwG.nil _ _⟩
     case round =>
      obtain ⟨k, cP, P, rfl, hk, hx, hb9, hvc, hi8, hop⟩ := hrel
      clear X B9 VC I8
      have X := Lib.hid hx
      have B9 := Lib.hid hb9
      have VC := Lib.hid hvc
      have I8 := Lib.hid hi8
      have OP := Lib.hid hop
      clear hx hb9 hvc hi8 hop
      by_cases hkp : k < p1
      · have t2 : decide ((k : Int) < (p1 : Int)) = true := decide_eq_true (by omega)
        have t2n : decide (k < p1) = true := decide_eq_true hkp
        have hkI : (k : Int) < (p1 : Int) := by omega
        obtain ⟨bP, oP, rfl, hltP, hcP⟩ := HR9.out.rp.at_ (show 0 < p1 by omega)
        obtain ⟨A2, n2, c2, hPl⟩ := hcP k hkp
        have HPL := Lib.hid (show ∀ W, Below w.heap.size w W → PlyIs W bP (oP + k * 2) (plyAt ps k) A2 n2 c2 from fun W hb => hPl.below hltP hb)
        have HCV := Lib.hid (ply_copy HVL.out (k := k) (by rw [HMV.out.2]; exact hkp))
        obtain ⟨pl, hpl⟩ : ∃ x, x = plyAt ps k := ⟨_, rfl⟩
        rw [← hpl] at HPL HCV
        have HPQ := Lib.hid hpl
        clear hcP hPl hpl
        obtain ⟨pV, ts⟩ := pl
        have HLT := Lib.hid (show ts.length = n2 from (HPL.out _ X.out.low).rt.len)
        have c0 := (HPL.out _ X.out.low).c0
        have c1 := (HPL.out _ X.out.low).c1
        have k1 := bel_alloc wr (boxP pV A2 n2 c2)
        have VP := Lib.hid (VB.new wr #[.int .i64 pV, .slice A2 n2 c2] 45)
        have HOB := Lib.hid (show ∀ a, P = some a → a.block < wr.heap.size from fun a ha => by
         obtain ⟨_, cur2, hc2⟩ := OP.out.cap.2.2 a ha
         exact lt_of_some hc2)
        replace X := Lib.hid (X.out.next k1)
        replace B9 := Lib.hid (B9.out.trans (k1.mono B9.out.size))
        replace VC := Lib.hid (VC.out.next k1)
        replace I8 := Lib.hid (And.intro (I8.out.1.below k1) (I8.out.2.chg (ChgR.of_below (T := 0) k1) (by decide)))
        replace OP := Lib.hid (OP.out.keep (CPl.chg (by decide) (by decide)) k1)
        clear k1
        go_upto_region 15 with (fail)
        clear c0 c1
        generalize wr.alloc (boxP pV A2 n2 c2) = W8 at X B9 VC I8 OP VP ⊢
        generalize wr.heap.size = gp at VP HOB ⊢
        refine wp_region_tail (S := (fun w' => w'.cell? ⟨gc, 2, none⟩ = some (.slice P k cP) ∧ w'.cell? ⟨gp, 0, none⟩ = some (.int .i64 pV) ∧ w'.cell? ⟨gp, 1, none⟩ = some (.slice A2 n2 c2))) 7 (by kernel_rfl) (by kernel_rfl) (by intro c a d v w h; cases d <;> exact h) (⟨cell_drq VC.out.d2, cell_drq VP.out.c0, cell_drq VP.out.c1⟩) (fun QT hT hP hHeld => ?_)
        simp only [List.extract_toArray, List.extract_eq_take_drop, List.drop_zero, Nat.sub_zero, List.take_succ_cons, List.take_zero]
        have HT := Lib.hid hT
        clear hT
        replace X := Lib.hid (X.out.next (Below.refl W8.heap.size W8).drew)
        replace B9 := Lib.hid (B9.out.trans ((Below.refl W8.heap.size W8).drew.mono B9.out.size))
        replace VC := Lib.hid (VC.out.next (Below.refl W8.heap.size W8).drew)
        replace I8 := Lib.hid (And.intro (I8.out.1.below (Below.refl W8.heap.size W8).drew) (I8.out.2.chg (ChgR.of_below (T := 0) (Below.refl W8.heap.size W8).drew) (by decide)))
        replace OP := Lib.hid (OP.out.keep (CPl.chg (by decide) (by decide)) (Below.refl W8.heap.size W8).drew)
        replace VP := Lib.hid (VP.out.next (Below.refl W8.heap.size W8).drew)
        generalize W8.drew = D4 at X B9 VC I8 OP VP hHeld ⊢
        refine tkk 0 63 rfl rfl (by kernel_rfl) (hP · · _) (by rfl) (fun w h => by obtain ⟨h0, h1, h2⟩ := h; go_simp; rfl) (by assumption) ?_
        simp only [set0, set1]
        refine tkk 1 64 rfl rfl (by kernel_rfl) (hP · · _) (by rfl) (fun w h => by obtain ⟨h0, h1, h2⟩ := h; go_simp; rfl) (by assumption) ?_
        simp only [set0, set1]
        refine tkk 2 65 rfl rfl (by kernel_rfl) (hP · · _) (by rfl) (fun w h => by obtain ⟨h0, h1, h2⟩ := h; go_simp; rfl) (by assumption) ?_
        simp only [set0, set1]
        refine wpAnyH_ready (rs := [3]) (by kernel_rfl) (by simp) ?_
        refine AllReadyH.cons rfl (fun K hK => ?_) AllReadyH.nil
        go_simp
        refine (kCopy_c pV A2 n2 c2 ts D4 (HPL.out _ X.out.low).rt (fun i hi => HCV.out.2 i (by rw [HLT.out]; exact hi)) (by have h1 := HCV.out.1; have h2 := HLT.out; dsimp only at h1; omega)).mono ?_
        rintro e v5 ⟨L3, c3, rfl, hrow, hlo3, hn3, hcm3, hb⟩
        replace X := Lib.hid (X.out.next hb)
        replace B9 := Lib.hid (B9.out.trans (hb.mono B9.out.size))
        replace VC := Lib.hid (VC.out.next hb)
        replace I8 := Lib.hid (And.intro (I8.out.1.below hb) (I8.out.2.chg (ChgR.of_below (T := 0) hb) (by decide)))
        replace OP := Lib.hid (OP.out.keep (CPl.chg (by decide) (by decide)) hb)
        replace VP := Lib.hid (VP.out.next hb)
        have RW := Lib.hid hrow
        have HC3 := Lib.hid (And.intro hn3 hcm3)
        clear hrow hlo3 hn3 hcm3 hb hHeld
        refine hK.out _ _ (⟨VC.out.d2, VP.out.c0, VP.out.c1⟩) (fun hHeld => ?_)
        clear hK K
        refine wpAnyH_ready (rs := [4]) (by kernel_rfl) (by simp) ?_
        refine AllReadyH.cons rfl (fun K hK => ?_) AllReadyH.nil
        go_simp
        have hb := bel_alloc v5 (boxP pV L3 n2 c3)
        have EL := Lib.hid (show ElG 2 CPl (v5.alloc (boxP pV L3 n2 c3)) v5.heap.size 0 1 [⟨pV, ts⟩] from ElG.one (v := [.int .i64 pV, .slice L3 n2 c3]) rfl (fun u hu => by simp at hu; rcases hu with rfl | rfl; exact ⟨rfl, noW_i _⟩; exact ⟨rfl, noW_s _ _ _⟩)
         ⟨L3, n2, c3, rfl, RW.out.chg (CTm.chg (by decide)) (ChgR.of_below (T := 0) hb) (by decide), HC3.out.1, HC3.out.2⟩
         (fun e u hu => by
          match e, hu with
          | 0, hu => injection hu with hu; subst hu; go_simp
          | 1, hu => injection hu with hu; subst hu; go_simp))
        replace X := Lib.hid (X.out.next hb)
        replace B9 := Lib.hid (B9.out.trans (hb.mono B9.out.size))
        replace VC := Lib.hid (VC.out.next hb)
        replace I8 := Lib.hid (And.intro (I8.out.1.below hb) (I8.out.2.chg (ChgR.of_below (T := 0) hb) (by decide)))
        replace OP := Lib.hid (OP.out.keep (CPl.chg (by decide) (by decide)) hb)
        replace VP := Lib.hid (VP.out.next hb)
        clear hb hHeld RW
        generalize v5.alloc (boxP pV L3 n2 c3) = v6 at X B9 VC I8 OP VP EL ⊢
        generalize v5.heap.size = ge at EL ⊢
        refine hK.out _ _ (⟨VC.out.d2, VP.out.c0, VP.out.c1⟩) (fun hHeld => ?_)
        clear hK K
        refine wpAnyH_ready (rs := [5]) (by kernel_rfl) (by simp) ?_
        refine AllReadyH.cons rfl (fun K hK => ?_) AllReadyH.nil
        refine step_app_g rfl infP (CPl.chg (by decide) (by decide)) (.tmp 64) (.tmp 67) rfl ge 0 1 1 [⟨pV, ts⟩] rfl rfl OP.out B9.out.size (by omega) EL.out (by omega) (by omega) ?_
        intro g' c' v7 h1 hb hch hot
        replace X := Lib.hid (X.out.under HG.out HGS.out (hb.mono (Nat.le_trans HGZ.out HS5.out)))
        replace B9 := Lib.hid (B9.out.trans hb)
        replace VC := Lib.hid (VC.out.chg hch (by decide))
        replace I8 := Lib.hid (And.intro (rdI_chg I8.out.1 I8.out.2 hch (by decide)) (I8.out.2.chg hch (by decide)))
        replace VP := Lib.hid (show VB v7 gp #[.int .i64 pV, .slice A2 n2 c2] 45 from ⟨(hot gp VP.out.lt (fun a ha => by have := HOB.out a ha; omega)).trans VP.out.hp⟩)
        rw [show ps.take k ++ [⟨pV, ts⟩] = ps.take (k + 1) by rw [HPQ.out]; exact take_ply (by rw [HMV.out.2]; exact hkp)] at h1
        replace OP := Lib.hid h1
        clear h1 hb hch hot hHeld EL
        refine hK.out _ _ (⟨VC.out.d2, VP.out.c0, VP.out.c1⟩) (fun hHeld => ?_)
        clear hK K
        refine tkk 6 69 rfl rfl (by kernel_rfl) (hP · · _) (by rfl) (fun w h => by obtain ⟨h0, h1, h2⟩ := h; go_simp; rfl) (by assumption) ?_
        clear hHeld
        refine wpAnyH_done (by kernel_rfl) ?_ _
        refine HT.out _ _ ?_
        clear HT hP QT
        have x2 := VC.out.d2
        have f2 := VC.out.fr 2
        refine wpList_step fun K hK => ?_
        go_simp
        refine hK _ _ ?_
        clear hK K
        refine wpList_nil ?_
        have s1 := VC.out.set 2 (v := .slice P k cP) rfl (noW_s _ _ _) (.slice (some ⟨g', 0, none⟩) (k + 1) c')
        have hgc : W5.heap.size ≤ gc := by have h1 := HGC.out; have h2 := HGL.out; omega
        have hz : gs + 1 ≤ gc := by have h1 := HGZ.out; have h2 := HS5.out; omega
        have hlow := (Below.refl gc v7).setCell (p := ⟨gc, 2, none⟩) (Nat.le_refl _) (.slice (some ⟨g', 0, none⟩) (k + 1) c')
        have X2 := Lib.hid (X.out.under HG.out HGS.out (hlow.mono hz))
        have B2 := Lib.hid (B9.out.trans (hlow.mono hgc))
        have VC2 := Lib.hid (show VB (v7.setCell ⟨gc, 2, none⟩ (.slice (some ⟨g', 0, none⟩) (k + 1) c')) gc #[.int .i64 k9, .slice A8 m1 c8, .slice (some ⟨g', 0, none⟩) (k + 1) c'] 51 from VC.out.put 2 (.slice (some ⟨g', 0, none⟩) (k + 1) c'))
        have I2 := Lib.hid (And.intro (rdI_chg I8.out.1 I8.out.2 s1 (by decide)) (I8.out.2.chg s1 (by decide)))
        have OP2 := Lib.hid (OP.out.chg (CPl.chg (by decide) (by decide)) s1 (by decide))
        clear x2 f2 s1 hlow hgc hz X B9 VC I8 OP VP
        generalize v7.setCell ⟨gc, 2, none⟩ (.slice (some ⟨g', 0, none⟩) (k + 1) c') = W9 at X2 B2 VC2 I2 OP2 ⊢
        go_wp2
        go_roundw
        case measure => simp [intOf]; omega
        case rel => exact ⟨k + 1, c', some ⟨g', 0, none⟩, by go_num, by omega, X2.out, B2.out, VC2.out, I2.out, OP2.out⟩
      · have e : k = p1 := by omega
        subst e
        have t2 : decide ((k : Int) < (k : Int)) = false := decide_eq_false (by omega)
        have t2n : decide (k < k) = false := decide_eq_false (by omega)
        have HTK := Lib.hid (show ps.take k = ps from List.take_of_length_le (by rw [HMV.out.2]; exact Nat.le_refl _))
        rw [HTK.out] at OP
        have OW2 := Lib.hid (OW.out.keep (CLk.chg (by decide) (by decide) (by decide)) B9.out)
        have E2 := Lib.hid (E4.out.low (B9.out.mono (by rw [← HZ4.out]; exact HS5.out)))
        have hzw : z4 ≤ wr.heap.size := Nat.le_trans HS5.out B9.out.size
        go_upto_region 17 with (fail)
        have o1 := X.out.vs.c1
        have x0 := VC.out.d0
        have x1 := VC.out.d1
        have x2 := VC.out.d2
        have hb := bel_alloc wr (boxL k9 A8 m1 c8 P k cP)
        have EL := Lib.hid (show ElG 3 CLk (wr.alloc (boxL k9 A8 m1 c8 P k cP)) wr.heap.size 0 1 [⟨k9, vs, ps⟩] from ElG.one (v := [.int .i64 k9, .slice A8 m1 c8, .slice P k cP]) rfl (fun u hu => by simp at hu; rcases hu with rfl | rfl | rfl; exact ⟨rfl, noW_i _⟩; exact ⟨rfl, noW_s _ _ _⟩; exact ⟨rfl, noW_s _ _ _⟩)
         ⟨A8, m1, c8, P, k, cP, rfl, I8.out.1.below hb, I8.out.2.chg (ChgR.of_below (T := 0) hb) (by decide), HC8.out.1, HC8.out.2, OP.out.row.chg (CPl.chg (by decide) (by decide)) (ChgR.of_below (T := 0) hb) (by decide), OP.out.cap.1, OP.out.cap.2.1⟩
         (fun e u hu => by
          match e, hu with
          | 0, hu => injection hu with hu; subst hu; go_simp
          | 1, hu => injection hu with hu; subst hu; go_simp
          | 2, hu => injection hu with hu; subst hu; go_simp))
        have X2 := Lib.hid (X.out.next hb)
        have OW3 := Lib.hid (OW2.out.keep (CLk.chg (by decide) (by decide) (by decide)) hb)
        have E3 := Lib.hid (E2.out.low (hb.mono (by rw [← HZ4.out]; exact hzw)))
        have hzw2 : z4 ≤ (wr.alloc (boxL k9 A8 m1 c8 P k cP)).heap.size := Nat.le_trans hzw hb.size
        clear hb
        go_wp2_with (at_builtin; refine wpList_app_g rfl infK (CLk.chg (by decide) (by decide) (by decide)) (.tmp 72) (.tmp 74) rfl wr.heap.size 0 1 1 [⟨k9, vs, ps⟩] rfl rfl OW3.out hzw2 (by omega) EL.out (by omega) (by omega) ?_)
        intro g' c' w' h1 hb hch hot
        have X4 := Lib.hid (X2.out.under HG.out HGS.out (hb.mono HGZ.out))
        have E5 := Lib.hid (E3.out.low (by rw [← HZ4.out]; exact hb))
        rw [show all.take j ++ [⟨k9, vs, ps⟩] = all.take (j + 1) by rw [← HLA.out]; exact take_lnk (by rw [HNN.out.2]; exact hjN)] at h1
        have OW4 := Lib.hid h1
        clear h1 hb hch hot o1 x0 x1 x2 X X2 OW2 OW3 E2 E3 EL hzw hzw2
        have o1 := X4.out.vs.c1
        have f1 := X4.out.vs.fr 1
        have X5 := Lib.hid (X4.out.put HG.out HGS.out (some ⟨g', 0, none⟩) (j + 1) c')
        have E6 := Lib.hid (E5.out.set 1 (.slice (some ⟨g', 0, none⟩) (j + 1) c'))
        have OW5 := Lib.hid (OW4.out.chg (CLk.chg (by decide) (by decide) (by decide)) (X4.out.vs.set 1 (v := .slice L j cL) rfl (noW_s _ _ _) (.slice (some ⟨g', 0, none⟩) (j + 1) c')) (by decide))
        clear X4 E5 OW4
        go_wp2
        go_roundw
        case measure => simp [intOf]; omega
        case rel => exact ⟨j + 1, c', some ⟨g', 0, none⟩, by go_num, by omega, X5.out, E6.out, OW5.out⟩
    refine AllReadyH.cons rfl (fun K hK => ?_) ?_
    ·
     go_simp
     have hb := bel_alloc D1 (boxL 0 none 0 0 none 0 0)
     have VC := Lib.hid (VB.new D1 #[.int .i64 0, .slice none 0 0, .slice none 0 0] 51)
     have HGC := Lib.hid VL.out.lt
     replace X := Lib.hid (X.out.next hb)
     replace B9 := Lib.hid (B9.out.trans (hb.mono B9.out.size))
     replace VL := Lib.hid (VL.out.next hb)
     clear hb hHeld
     generalize D1.alloc (boxL 0 none 0 0 none 0 0) = v8 at X B9 VL VC ⊢
     generalize D1.heap.size = gc at VC HGC ⊢
     refine hK.out _ _ (⟨VL.out.d0, VL.out.d1⟩) (fun hHeld => ?_)
     clear hK K
     refine wpAnyH_ready (rs := [4]) (by kernel_rfl) (by simp) ?_
     refine AllReadyH.cons rfl (fun K hK => ?_) AllReadyH.nil
     go_simp
     refine (cloneI_c B1 m1 d1 vs v8 (HR9.out.ri.below X.out.low) (by have h1 := HLV.out.2.2.2; have h2 := HMV.out.1; omega)).mono ?_
     rintro e v9 ⟨A8, c8, rfl, hri, hty, hlo8, hc8, hcm8, hb⟩
     replace X := Lib.hid (X.out.next hb)
     replace B9 := Lib.hid (B9.out.trans (hb.mono B9.out.size))
     replace VL := Lib.hid (VL.out.next hb)
     replace VC := Lib.hid (VC.out.next hb)
     rw [HMV.out.1] at hri hty hc8 ⊢
     have I8 := Lib.hid (And.intro hri hty)
     have HC8 := Lib.hid (And.intro hc8 hcm8)
     clear hri hty hlo8 hc8 hcm8 hb hHeld
     refine hK.out _ _ (⟨VL.out.d0, VL.out.d1⟩) (fun hHeld => ?_)
     clear hK K
     refine tkk 5 55 rfl rfl (by kernel_rfl) (hP · · _) (by rfl) (fun w h => by obtain ⟨h0, h1⟩ := h; go_simp; rfl) (by assumption) ?_
     simp only [set0, set1]
     clear hHeld
     refine wpAnyH_done (by kernel_rfl) ?_ _
     refine HT.out _ _ ?_
     clear HT hP QT
     have x0 := VC.out.d0
     have x1 := VC.out.d1
     have x2 := VC.out.d2
     have f0 := VC.out.fr 0
     have f1 := VC.out.fr 1
     have f2 := VC.out.fr 2
     refine wpList_step fun K hK => ?_
     go_simp
     refine hK _ _ ?_
     clear hK K
     refine wpList_nil ?_
     have y1 := VC.out.put 0 (.int .i64 k9)
     have y2 := y1.put 1 (.slice A8 m1 c8)
     have y3 := y2.put 2 (.slice none 0 0)
     have s1 := VC.out.set 0 (v := .int .i64 0) rfl (noW_i _) (.int .i64 k9)
     have s2 := y1.set 1 (v := .slice none 0 0) rfl (noW_s _ _ _) (.slice A8 m1 c8)
     have s3 := y2.set 2 (v := .slice none 0 0) rfl (noW_s _ _ _) (.slice none 0 0)
     have hgc : W5.heap.size ≤ gc := by have h1 := HGC.out; have h2 := HGL.out; omega
     have hz : gs + 1 ≤ gc := by have h1 := HGZ.out; have h2 := HS5.out; omega
     have hlow := (((Below.refl gc v9).setCell (p := ⟨gc, 0, none⟩) (Nat.le_refl _) (.int .i64 k9)).setCell (p := ⟨gc, 1, none⟩) (Nat.le_refl _) (.slice A8 m1 c8)).setCell (p := ⟨gc, 2, none⟩) (Nat.le_refl _) (.slice none 0 0)
     have X2 := Lib.hid (X.out.under HG.out HGS.out (hlow.mono hz))
     have B2 := Lib.hid (B9.out.trans (hlow.mono hgc))
     have VC2 := Lib.hid (show VB (((v9.setCell ⟨gc, 0, none⟩ (.int .i64 k9)).setCell ⟨gc, 1, none⟩ (.slice A8 m1 c8)).setCell ⟨gc, 2, none⟩ (.slice none 0 0)) gc #[.int .i64 k9, .slice A8 m1 c8, .slice none 0 0] 51 from y3)
     have I2 := Lib.hid (And.intro (rdI_chg I8.out.1 I8.out.2 ((s1.trans s2).trans s3) (by decide)) (I8.out.2.chg ((s1.trans s2).trans s3) (by decide)))
     have VL2 := Lib.hid (VL.out.low HGC.out hlow)
     clear x0 x1 x2 f0 f1 f2 y1 y2 y3 s1 s2 s3 hlow X B9 VC I8 VL hgc hz
     generalize (((v9.setCell ⟨gc, 0, none⟩ (.int .i64 k9)).setCell ⟨gc, 1, none⟩ (.slice A8 m1 c8)).setCell ⟨gc, 2, none⟩ (.slice none 0 0)) = W7 at X2 B2 VC2 I2 VL2 ⊢
     have X := X2
     have B9 := B2
     have VC := VC2
     have I8 := I2
     clear X2 B2 VC2 I2
     have l2 := VL2.out.d2
     go_wp2
     clear l2 VL2
     go_loopw [59] (fun v wr => ∃ (k cP : Nat) (P : Option Addr), v = .int .i64 (k : Int) ∧ k ≤ p1 ∧ SK w wr g gs V L j cL ∧ Below W5.heap.size W5 wr ∧ VB wr gc #[.int .i64 k9, .slice A8 m1 c8, .slice P k cP] 51 ∧ (RdI wr A8 m1 vs ∧ TyB wr 3 A8 m1) ∧ OwG 45 2 CPl wr W5.heap.size P k cP (ps.take k)) (fun v _ => p1 - (intOf v).toNat)
     case atStart => exact ⟨0, 0, none, rfl, Nat.zero_le _, X.out, B9.out, VC.out, I8.out, OwG.nil _ _⟩
     case round =>
      obtain ⟨k, cP, P, rfl, hk, hx, hb9, hvc, hi8, hop⟩ := hrel
      clear X B9 VC I8
      have X := Lib.hid hx
      have B9 := Lib.hid hb9
      have VC := Lib.hid hvc
      have I8 := Lib.hid hi8
      have OP := Lib.hid hop
      clear hx hb9 hvc hi8 hop
      by_cases hkp : k < p1
      · have t2 : decide ((k : Int) < (p1 : Int)) = true := decide_eq_true (by omega)
        have t2n : decide (k < p1) = true := decide_eq_true hkp
        have hkI : (k : Int) < (p1 : Int) := by omega
        obtain ⟨bP, oP, rfl, hltP, hcP⟩ := HR9.out.rp.at_ (show 0 < p1 by omega)
        obtain ⟨A2, n2, c2, hPl⟩ := hcP k hkp
        have HPL := Lib.hid (show ∀ W, Below w.heap.size w W → PlyIs W bP (oP + k * 2) (plyAt ps k) A2 n2 c2 from fun W hb => hPl.below hltP hb)
        have HCV := Lib.hid (ply_copy HVL.out (k := k) (by rw [HMV.out.2]; exact hkp))
        obtain ⟨pl, hpl⟩ : ∃ x, x = plyAt ps k := ⟨_, rfl⟩
        rw [← hpl] at HPL HCV
        have HPQ := Lib.hid hpl
        clear hcP hPl hpl
        obtain ⟨pV, ts⟩ := pl
        have HLT := Lib.hid (show ts.length = n2 from (HPL.out _ X.out.low).rt.len)
        have c0 := (HPL.out _ X.out.low).c0
        have c1 := (HPL.out _ X.out.low).c1
        have k1 := bel_alloc wr (boxP pV A2 n2 c2)
        have VP := Lib.hid (VB.new wr #[.int .i64 pV, .slice A2 n2 c2] 45)
        have HOB := Lib.hid (show ∀ a, P = some a → a.block < wr.heap.size from fun a ha => by
         obtain ⟨_, cur2, hc2⟩ := OP.out.cap.2.2 a ha
         exact lt_of_some hc2)
        replace X := Lib.hid (X.out.next k1)
        replace B9 := Lib.hid (B9.out.trans (k1.mono B9.out.size))
        replace VC := Lib.hid (VC.out.next k1)
        replace I8 := Lib.hid (And.intro (I8.out.1.below k1) (I8.out.2.chg (ChgR.of_below (T := 0) k1) (by decide)))
        replace OP := Lib.hid (OP.out.keep (CPl.chg (by decide) (by decide)) k1)
        clear k1
        go_upto_region 15 with (fail)
        clear c0 c1
        generalize wr.alloc (boxP pV A2 n2 c2) = W8 at X B9 VC I8 OP VP ⊢
        generalize wr.heap.size = gp at VP HOB ⊢
        refine wp_region_tail (S := (fun w' => w'.cell? ⟨gc, 2, none⟩ = some (.slice P k cP) ∧ w'.cell? ⟨gp, 0, none⟩ = some (.int .i64 pV) ∧ w'.cell? ⟨gp, 1, none⟩ = some (.slice A2 n2 c2))) 7 (by kernel_rfl) (by kernel_rfl) (by intro c a d v w h; cases d <;> exact h) (⟨cell_drq VC.out.d2, cell_drq VP.out.c0, cell_drq VP.out.c1⟩) (fun QT hT hP hHeld => ?_)
        simp only [List.extract_toArray, List.extract_eq_take_drop, List.drop_zero, Nat.sub_zero, List.take_succ_cons, List.take_zero]
        have HT := Lib.hid hT
        clear hT
        replace X := Lib.hid (X.out.next (Below.refl W8.heap.size W8).drew)
        replace B9 := Lib.hid (B9.out.trans ((Below.refl W8.heap.size W8).drew.mono B9.out.size))
        replace VC := Lib.hid (VC.out.next (Below.refl W8.heap.size W8).drew)
        replace I8 := Lib.hid (And.intro (I8.out.1.below (Below.refl W8.heap.size W8).drew) (I8.out.2.chg (ChgR.of_below (T := 0) (Below.refl W8.heap.size W8).drew) (by decide)))
        replace OP := Lib.hid (OP.out.keep (CPl.chg (by decide) (by decide)) (Below.refl W8.heap.size W8).drew)
        replace VP := Lib.hid (VP.out.next (Below.refl W8.heap.size W8).drew)
        generalize W8.drew = D10 at X B9 VC I8 OP VP hHeld ⊢
        refine tkk 0 63 rfl rfl (by kernel_rfl) (hP · · _) (by rfl) (fun w h => by obtain ⟨h0, h1, h2⟩ := h; go_simp; rfl) (by assumption) ?_
        simp only [set0, set1]
        refine tkk 1 64 rfl rfl (by kernel_rfl) (hP · · _) (by rfl) (fun w h => by obtain ⟨h0, h1, h2⟩ := h; go_simp; rfl) (by assumption) ?_
        simp only [set0, set1]
        refine tkk 2 65 rfl rfl (by kernel_rfl) (hP · · _) (by rfl) (fun w h => by obtain ⟨h0, h1, h2⟩ := h; go_simp; rfl) (by assumption) ?_
        simp only [set0, set1]
        refine wpAnyH_ready (rs := [3]) (by kernel_rfl) (by simp) ?_
        refine AllReadyH.cons rfl (fun K hK => ?_) AllReadyH.nil
        go_simp
        refine (kCopy_c pV A2 n2 c2 ts D10 (HPL.out _ X.out.low).rt (fun i hi => HCV.out.2 i (by rw [HLT.out]; exact hi)) (by have h1 := HCV.out.1; have h2 := HLT.out; dsimp only at h1; omega)).mono ?_
        rintro e v11 ⟨L3, c3, rfl, hrow, hlo3, hn3, hcm3, hb⟩
        replace X := Lib.hid (X.out.next hb)
        replace B9 := Lib.hid (B9.out.trans (hb.mono B9.out.size))
        replace VC := Lib.hid (VC.out.next hb)
        replace I8 := Lib.hid (And.intro (I8.out.1.below hb) (I8.out.2.chg (ChgR.of_below (T := 0) hb) (by decide)))
        replace OP := Lib.hid (OP.out.keep (CPl.chg (by decide) (by decide)) hb)
        replace VP := Lib.hid (VP.out.next hb)
        have RW := Lib.hid hrow
        have HC3 := Lib.hid (And.intro hn3 hcm3)
        clear hrow hlo3 hn3 hcm3 hb hHeld
        refine hK.out _ _ (⟨VC.out.d2, VP.out.c0, VP.out.c1⟩) (fun hHeld => ?_)
        clear hK K
        refine wpAnyH_ready (rs := [4]) (by kernel_rfl) (by simp) ?_
        refine AllReadyH.cons rfl (fun K hK => ?_) AllReadyH.nil
        go_simp
        have hb := bel_alloc v11 (boxP pV L3 n2 c3)
        have EL := Lib.hid (show ElG 2 CPl (v11.alloc (boxP pV L3 n2 c3)) v11.heap.size 0 1 [⟨pV, ts⟩] from ElG.one (v := [.int .i64 pV, .slice L3 n2 c3]) rfl (fun u hu => by simp at hu; rcases hu with rfl | rfl; exact ⟨rfl, noW_i _⟩; exact ⟨rfl, noW_s _ _ _⟩)
         ⟨L3, n2, c3, rfl, RW.out.chg (CTm.chg (by decide)) (ChgR.of_below (T := 0) hb) (by decide), HC3.out.1, HC3.out.2⟩
         (fun e u hu => by
          match e, hu with
          | 0, hu => injection hu with hu; subst hu; go_simp
          | 1, hu => injection hu with hu; subst hu; go_simp))
        replace X := Lib.hid (X.out.next hb)
        replace B9 := Lib.hid (B9.out.trans (hb.mono B9.out.size))
        replace VC := Lib.hid (VC.out.next hb)
        replace I8 := Lib.hid (And.intro (I8.out.1.below hb) (I8.out.2.chg (ChgR.of_below (T := 0) hb) (by decide)))
        replace OP := Lib.hid (OP.out.keep (CPl.chg (by decide) (by decide)) hb)
        replace VP := Lib.hid (VP.out.next hb)
        clear hb hHeld RW
        generalize v11.alloc (boxP pV L3 n2 c3) = v12 at X B9 VC I8 OP VP EL ⊢
        generalize v11.heap.size = ge at EL ⊢
        refine hK.out _ _ (⟨VC.out.d2, VP.out.c0, VP.out.c1⟩) (fun hHeld => ?_)
        clear hK K
        refine wpAnyH_ready (rs := [5]) (by kernel_rfl) (by simp) ?_
        refine AllReadyH.cons rfl (fun K hK => ?_) AllReadyH.nil
        refine step_app_g rfl infP (CPl.chg (by decide) (by decide)) (.tmp 64) (.tmp 67) rfl ge 0 1 1 [⟨pV, ts⟩] rfl rfl OP.out B9.out.size (by omega) EL.out (by omega) (by omega) ?_
        intro g' c' v13 h1 hb hch hot
        replace X := Lib.hid (X.out.under HG.out HGS.out (hb.mono (Nat.le_trans HGZ.out HS5.out)))
        replace B9 := Lib.hid (B9.out.trans hb)
        replace VC := Lib.hid (VC.out.chg hch (by decide))
        replace I8 := Lib.hid (And.intro (rdI_chg I8.out.1 I8.out.2 hch (by decide)) (I8.out.2.chg hch (by decide)))
        replace VP := Lib.hid (show VB v13 gp #[.int .i64 pV, .slice A2 n2 c2] 45 from ⟨(hot gp VP.out.lt (fun a ha => by have := HOB.out a ha; omega)).trans VP.out.hp⟩)
        rw [show ps.take k ++ [⟨pV, ts⟩] = ps.take (k + 1) by rw [HPQ.out]; exact take_ply (by rw [HMV.out.2]; exact hkp)] at h1
        replace OP := Lib.hid h1
        clear h1 hb hch hot hHeld EL
        refine hK.out _ _ (⟨VC.out.d2, VP.out.c0, VP.out.c1⟩) (fun hHeld => ?_)
        clear hK K
        refine tkk 6 69 rfl rfl (by kernel_rfl) (hP · · _) (by rfl) (fun w h => by obtain ⟨h0, h1, h2⟩ := h; go_simp; rfl) (by assumption) ?_
        clear hHeld
        refine wpAnyH_done (by kernel_rfl) ?_ _
        refine HT.out _ _ ?_
        clear HT hP QT
        have x2 := VC.out.d2
        have f2 := VC.out.fr 2
        refine wpList_step fun K hK => ?_
        go_simp
        refine hK _ _ ?_
        clear hK K
        refine wpList_nil ?_
        have s1 := VC.out.set 2 (v := .slice P k cP) rfl (noW_s _ _ _) (.slice (some ⟨g', 0, none⟩) (k + 1) c')
        have hgc : W5.heap.size ≤ gc := by have h1 := HGC.out; have h2 := HGL.out; omega
        have hz : gs + 1 ≤ gc := by have h1 := HGZ.out; have h2 := HS5.out; omega
        have hlow := (Below.refl gc v13).setCell (p := ⟨gc, 2, none⟩) (Nat.le_refl _) (.slice (some ⟨g', 0, none⟩) (k + 1) c')
        have X2 := Lib.hid (X.out.under HG.out HGS.out (hlow.mono hz))
        have B2 := Lib.hid (B9.out.trans (hlow.mono hgc))
        have VC2 := Lib.hid (show VB (v13.setCell ⟨gc, 2, none⟩ (.slice (some ⟨g', 0, none⟩) (k + 1) c')) gc #[.int .i64 k9, .slice A8 m1 c8, .slice (some ⟨g', 0, none⟩) (k + 1) c'] 51 from VC.out.put 2 (.slice (some ⟨g', 0, none⟩) (k + 1) c'))
        have I2 := Lib.hid (And.intro (rdI_chg I8.out.1 I8.out.2 s1 (by decide)) (I8.out.2.chg s1 (by decide)))
        have OP2 := Lib.hid (OP.out.chg (CPl.chg (by decide) (by decide)) s1 (by decide))
        clear x2 f2 s1 hlow hgc hz X B9 VC I8 OP VP
        generalize v13.setCell ⟨gc, 2, none⟩ (.slice (some ⟨g', 0, none⟩) (k + 1) c') = W9 at X2 B2 VC2 I2 OP2 ⊢
        go_wp2
        go_roundw
        case measure => simp [intOf]; omega
        case rel => exact ⟨k + 1, c', some ⟨g', 0, none⟩, by go_num, by omega, X2.out, B2.out, VC2.out, I2.out, OP2.out⟩
      · have e : k = p1 := by omega
        subst e
        have t2 : decide ((k : Int) < (k : Int)) = false := decide_eq_false (by omega)
        have t2n : decide (k < k) = false := decide_eq_false (by omega)
        have HTK := Lib.hid (show ps.take k = ps from List.take_of_length_le (by rw [HMV.out.2]; exact Nat.le_refl _))
        rw [HTK.out] at OP
        have OW2 := Lib.hid (OW.out.keep (CLk.chg (by decide) (by decide) (by decide)) B9.out)
        have E2 := Lib.hid (E4.out.low (B9.out.mono (by rw [← HZ4.out]; exact HS5.out)))
        have hzw : z4 ≤ wr.heap.size := Nat.le_trans HS5.out B9.out.size
        go_upto_region 17 with (fail)
        have o1 := X.out.vs.c1
        have x0 := VC.out.d0
        have x1 := VC.out.d1
        have x2 := VC.out.d2
        have hb := bel_alloc wr (boxL k9 A8 m1 c8 P k cP)
        have EL := Lib.hid (show ElG 3 CLk (wr.alloc (boxL k9 A8 m1 c8 P k cP)) wr.heap.size 0 1 [⟨k9, vs, ps⟩] from ElG.one (v := [.int .i64 k9, .slice A8 m1 c8, .slice P k cP]) rfl (fun u hu => by simp at hu; rcases hu with rfl | rfl | rfl; exact ⟨rfl, noW_i _⟩; exact ⟨rfl, noW_s _ _ _⟩; exact ⟨rfl, noW_s _ _ _⟩)
         ⟨A8, m1, c8, P, k, cP, rfl, I8.out.1.below hb, I8.out.2.chg (ChgR.of_below (T := 0) hb) (by decide), HC8.out.1, HC8.out.2, OP.out.row.chg (CPl.chg (by decide) (by decide)) (ChgR.of_below (T := 0) hb) (by decide), OP.out.cap.1, OP.out.cap.2.1⟩
         (fun e u hu => by
          match e, hu with
          | 0, hu => injection hu with hu; subst hu; go_simp
          | 1, hu => injection hu with hu; subst hu; go_simp
          | 2, hu => injection hu with hu; subst hu; go_simp))
        have X2 := Lib.hid (X.out.next hb)
        have OW3 := Lib.hid (OW2.out.keep (CLk.chg (by decide) (by decide) (by decide)) hb)
        have E3 := Lib.hid (E2.out.low (hb.mono (by rw [← HZ4.out]; exact hzw)))
        have hzw2 : z4 ≤ (wr.alloc (boxL k9 A8 m1 c8 P k cP)).heap.size := Nat.le_trans hzw hb.size
        clear hb
        go_wp2_with (at_builtin; refine wpList_app_g rfl infK (CLk.chg (by decide) (by decide) (by decide)) (.tmp 72) (.tmp 74) rfl wr.heap.size 0 1 1 [⟨k9, vs, ps⟩] rfl rfl OW3.out hzw2 (by omega) EL.out (by omega) (by omega) ?_)
        intro g' c' w' h1 hb hch hot
        have X4 := Lib.hid (X2.out.under HG.out HGS.out (hb.mono HGZ.out))
        have E5 := Lib.hid (E3.out.low (by rw [← HZ4.out]; exact hb))
        rw [show all.take j ++ [⟨k9, vs, ps⟩] = all.take (j + 1) by rw [← HLA.out]; exact take_lnk (by rw [HNN.out.2]; exact hjN)] at h1
        have OW4 := Lib.hid h1
        clear h1 hb hch hot o1 x0 x1 x2 X X2 OW2 OW3 E2 E3 EL hzw hzw2
        have o1 := X4.out.vs.c1
        have f1 := X4.out.vs.fr 1
        have X5 := Lib.hid (X4.out.put HG.out HGS.out (some ⟨g', 0, none⟩) (j + 1) c')
        have E6 := Lib.hid (E5.out.set 1 (.slice (some ⟨g', 0, none⟩) (j + 1) c'))
        have OW5 := Lib.hid (OW4.out.chg (CLk.chg (by decide) (by decide) (by decide)) (X4.out.vs.set 1 (v := .slice L j cL) rfl (noW_s _ _ _) (.slice (some ⟨g', 0, none⟩) (j + 1) c')) (by decide))
        clear X4 E5 OW4
        go_wp2
        go_roundw
        case measure => simp [intOf]; omega
        case rel => exact ⟨j + 1, c', some ⟨g', 0, none⟩, by go_num, by omega, X5.out, E6.out, OW5.out⟩
    exact AllReadyH.nil
  · have e : j = N := by omega
    subst e
    have t1 : decide ((j : Int) < (j : Int)) = false := decide_eq_false (by omega)
    have t1n : decide (j < j) = false := decide_eq_false (by omega)
    have HFA := Lib.hid (show all.take j = ls ++ ls' from by rw [List.take_of_length_le (by rw [HNN.out.2]; exact Nat.le_refl _), HAL.out])
    rw [HFA.out] at OW
    have r0 := X.out.rr.c0
    have r1 := X.out.rr.c1
    have f0 := X.out.rr.fr 0
    have f1 := X.out.rr.fr 1
    have o0 := X.out.vs.c0
    have o1 := X.out.vs.c1
    go_wp2
    have y1 := X.out.rr.put 0 (.int .i64 V)
    have y2 := y1.put 1 (.slice L j cL)
    have q0 := y2.cell 0
    have q1 := y2.cell 1
    have s1 := X.out.rr.set 0 (v := .int .i64 0) rfl (noW_i _) (.int .i64 V)
    have s2 := y1.set 1 (v := .slice none 0 0) rfl (noW_s _ _ _) (.slice L j cL)
    refine bodyPost_ret (v := .tuple #[aggS V L j cL, .int .i64 0]) (by simp [results, Tryz.results19, go_sem, q0, q1]) rfl ?_
    have hrl := (OW.out.row.chg (CLk.chg (by decide) (by decide) (by decide)) (s1.trans s2) (by decide)).rdL
    have hln : (ls ++ ls').length = j := by rw [← HAL.out]; exact HNN.out.2
    exact ⟨fun q => absurd (HF.out.symm.trans q) (by decide), fun _ q => absurd rfl q, fun _ _ => ⟨L, cL, by rw [hln], by rw [hln]; exact hrl, by rw [hln]; exact OW.out.cap.1, OW.out.cap.2.1, below_store X.out.low (by have := HG.out; omega) _ _⟩⟩
end Go.Proofs.YteabokkofoomkaaGreat

import Derived.Test.YteabokkofoomkaaEak
import Derived.Test.YteabokkofoomkaaEbi
import Derived.Deep.DeepCutAuto
set_option maxRecDepth 100000
namespace Go.Proofs.Yteabokkofoomkaa
open Go.RowKit Go.Shelf Go.Deep
set_option maxHeartbeats 16000000 in
theorem SystemOrder_c (V : Int) (A : Option Addr) (n c : Nat) (ls : List Lnk) (X : Option Addr) (nx cx : Nat) (ns : List Nmr) (U : Option Addr) (nt ct : Nat) (bs : List Nat) (w : World) (h : RdL w A n ls) (hn : n ≤ c) (hc : c ≤ 9223372036854775807) (h' : RdN w X nx ns) (hx : nx ≤ cx) (hcx : cx ≤ 9223372036854775807) (hu : RdU w U nt bs) (hnt : nt ≤ 9223372036854775807) :
 Calls Try.prog 4 #[aggS V A n c, .slice X nx cx, .slice U nt ct] w (IsB true w) := by
 have k1 := bel_alloc w (boxS V A n c)
 have X0 := Lib.hid (show SL w (w.alloc (boxS V A n c)) w.heap.size V A n c from ⟨k1, BxY.new w V A n c⟩)
 have HI := Lib.hid (And.intro h h')
 have HL := Lib.hid (And.intro h.len h'.len)
 have HN := Lib.hid (show n ≤ 9223372036854775807 ∧ nx ≤ 9223372036854775807 by omega)
 have HU := Lib.hid hu
 clear k1 h h' hn hc hx hcx hu
 go_enter Try.func4, Try.ntmps4
 go_upto_region 1 with (fail)
 generalize w.alloc (boxS V A n c) = W0 at X0 ⊢
 obtain ⟨g, hg⟩ : ∃ g, g = w.heap.size := ⟨_, rfl⟩
 have HG := Lib.hid (show w.heap.size ≤ g by omega)
 rw [← hg] at X0 ⊢
 clear hg
 have a1 := X0.out.bx.c1
 by_cases q1 : 60 < n
 case pos =>
  have t1 : decide ((60 : Int) < (n : Int)) = true := decide_eq_true (by omega)
  have t1n : decide (60 < n) = true := decide_eq_true q1
  go_wp2_with fail
  refine (awake9_c _).mono ?_
  rintro e w9 ⟨rfl, hb⟩
  have P := Lib.hid (X0.out.low.trans (hb.mono X0.out.low.size))
  clear hb
  go_wp2
  go_ret
  exact ⟨rfl, P.out⟩
 have t1 : decide ((60 : Int) < (n : Int)) = false := decide_eq_false (by omega)
 have t1n : decide (60 < n) = false := decide_eq_false q1
 have hn60 : n ≤ 60 := by omega
 clear q1
 have a0 := X0.out.bx.c0
 go_wp2_with fail
 refine (light9_c V A n c ls X nx cx ns 300 _ (HI.out.1.below X0.out.low) (HI.out.2.below X0.out.low) HN.out.2 HN.out.1).mono ?_
 rintro e w1 ⟨b, rfl, hb, -⟩
 replace X0 := Lib.hid (X0.out.next hb)
 clear hb a0 a1 t1 t1n
 cases b with
 | false =>
   go_wp2_with fail
   refine (awake9_c _).mono ?_
   rintro e w9 ⟨rfl, hb⟩
   have P := Lib.hid (X0.out.low.trans (hb.mono X0.out.low.size))
   clear hb
   go_wp2
   go_ret
   exact ⟨rfl, P.out⟩
 | true =>
 obtain ⟨T, hT⟩ := bound_two9 (fun i j => allV (plyAt (lnkAt ls i).ps j).ts (ownOf (lnkAt ls i).vs ns) (plyAt (lnkAt ls i).ps j).ts.length) (fun i => (lnkAt ls i).ps.length) ls.length
 have HT := Lib.hid hT
 clear hT
 go_upto_region 3 with (fail)
 go_cut [7] (fun v7 W => ∃ gt gl cl F, v7 = .pointer (some ⟨gt, 0, none⟩) ∧ SL w W g V A n c ∧ BxY W gt V (some ⟨gl, 0, none⟩) n cl ∧ FrV W gt ∧ TL w W gl n cl ls F ∧ g < gt ∧ g < gl ∧ gt ≠ gl)
 case first =>
  refine wp_region_tail (S := (fun w' => w'.cell? ⟨g, 0, none⟩ = some (.int .i64 V) ∧ w'.cell? ⟨g, 1, none⟩ = some (.slice A n c))) 8 (by kernel_rfl) (by kernel_rfl) (by intro c a d v w h; cases d <;> exact h) (⟨cell_drq X0.out.bx.c0, cell_drq X0.out.bx.c1⟩) (fun QT hT hP hHeld => ?_)
  simp only [List.extract_toArray, List.extract_eq_take_drop, List.drop_zero, Nat.sub_zero, List.take_succ_cons, List.take_zero]
  have HT := Lib.hid hT
  clear hT
  replace X0 := Lib.hid (X0.out.next (Below.refl w1.heap.size w1).drew)
  generalize w1.drew = D1 at X0 hHeld ⊢
  refine tkk 0 25 rfl rfl (by kernel_rfl) (hP · · _) (by rfl) (fun w h => by obtain ⟨h0, h1⟩ := h; go_simp; rfl) (by assumption) ?_
  simp only [set0, set1]
  refine tkk 1 26 rfl rfl (by kernel_rfl) (hP · · _) (by rfl) (fun w h => by obtain ⟨h0, h1⟩ := h; go_simp; rfl) (by assumption) ?_
  simp only [set0, set1]
  refine tkk 3 28 rfl rfl (by kernel_rfl) (hP · · _) (by rfl) (fun w h => by obtain ⟨h0, h1⟩ := h; go_simp; rfl) (by assumption) ?_
  simp only [set0, set1]
  refine tkk 4 29 rfl rfl (by kernel_rfl) (hP · · _) (by rfl) (fun w h => by obtain ⟨h0, h1⟩ := h; go_simp; rfl) (by assumption) ?_
  simp only [set0, set1]
  refine wpAnyH_ready (rs := [2, 7]) (by kernel_rfl) (by simp) ?_
  refine AllReadyH.cons rfl (fun K hK => ?_) ?_
  ·
   go_simp
   have HE := Lib.hid (EB.new D1)
   have lHE := X0.out.bx.lt
   have hb := bel_alloc D1 (.cells #[] 39)
   replace X0 := Lib.hid (X0.out.next hb)
   clear hb hHeld
   generalize D1.alloc (.cells #[] 39) = v2 at X0 HE ⊢
   generalize D1.heap.size = ge at HE lHE ⊢
   refine hK.out _ _ (⟨X0.out.bx.c0, X0.out.bx.c1⟩) (fun hHeld => ?_)
   clear hK K
   refine wpAnyH_ready (rs := [5, 7]) (by kernel_rfl) (by simp) ?_
   refine AllReadyH.cons rfl (fun K hK => ?_) ?_
   ·
    refine step_app_all rfl (.tmp 27) (.tmp 29) rfl ge A n c ls rfl rfl HI.out.1 X0.out.low HE.out (by omega) ?_
    intro gl cl v3 F hb hgl htl
    have lHE2 := HE.out.lt
    have lX2 := X0.out.bx.lt
    have TT := Lib.hid htl
    replace X0 := Lib.hid (X0.out.next hb)
    replace HE := Lib.hid (HE.out.next hb)
    have hlg : g < gl := by rcases hgl with h | h <;> omega
    clear hb hHeld htl hgl lHE2 lX2
    refine hK.out _ _ (⟨X0.out.bx.c0, X0.out.bx.c1⟩) (fun hHeld => ?_)
    clear hK K
    refine tkk 6 31 rfl rfl (by kernel_rfl) (hP · · _) (by rfl) (fun w h => by obtain ⟨h0, h1⟩ := h; go_simp; rfl) (by assumption) ?_
    refine wpAnyH_ready (rs := [7]) (by kernel_rfl) (by simp) ?_
    refine AllReadyH.cons rfl (fun K hK => ?_) AllReadyH.nil
    go_simp
    have RT := Lib.hid (RP0.newS v3)
    have lRT := X0.out.bx.lt
    have lRTHE := HE.out.lt
    have lRTTT := TT.out.lt
    have hb := bel_alloc v3 (boxS 0 none 0 0)
    replace X0 := Lib.hid (X0.out.next hb)
    replace HE := Lib.hid (HE.out.next hb)
    replace TT := Lib.hid (TT.out.next hb)
    clear hb hHeld
    generalize v3.alloc (boxS 0 none 0 0) = v4 at X0 HE TT RT ⊢
    generalize v3.heap.size = gt at RT lRT lRTHE lRTTT ⊢
    refine hK.out _ _ (⟨X0.out.bx.c0, X0.out.bx.c1⟩) (fun hHeld => ?_)
    clear hK K
    clear hHeld
    refine wpAnyH_done (by kernel_rfl) ?_ _
    refine HT.out _ _ ?_
    clear HT hP QT
    have hne2 : gt ≠ gl := by omega
    have hgt : g < gt := by omega
    have c0 := RT.out.bx.c0
    have c1 := RT.out.bx.c1
    have f0 := RT.out.fr 0
    have f1 := RT.out.fr 1
    refine wpList_step fun K hK => ?_
    go_simp
    refine hK _ _ ?_
    clear hK K
    refine wpList_nil ?_
    have Y := Lib.hid (RT.out.bx.put V (some ⟨gl, 0, none⟩) n cl)
    have YF := Lib.hid (show FrV ((v4.setCell ⟨gt, 0, none⟩ (.int .i64 V)).setCell ⟨gt, 1, none⟩ (.slice (some ⟨gl, 0, none⟩) n cl)) gt from ⟨by rw [World.size_setCell, World.size_setCell]; exact RT.out.bx.lt, fun o => by rw [World.frozen?_setCell, World.frozen?_setCell]; exact RT.out.fr o⟩)
    have TT2 := Lib.hid ((TT.out.off (p := ⟨gt, 0, none⟩) hne2 (.int .i64 V)).off (p := ⟨gt, 1, none⟩) hne2 (.slice (some ⟨gl, 0, none⟩) n cl))
    have X2 := Lib.hid (show SL w ((v4.setCell ⟨gt, 0, none⟩ (.int .i64 V)).setCell ⟨gt, 1, none⟩ (.slice (some ⟨gl, 0, none⟩) n cl)) g V A n c from ⟨below_store X0.out.low (by have := HG.out; omega) _ _, (X0.out.bx.off9 (a := ⟨gt, 0, none⟩) (by show gt ≠ g; omega) _).off9 (a := ⟨gt, 1, none⟩) (by show gt ≠ g; omega) _⟩)
    clear c0 c1 f0 f1 RT TT X0 HE
    generalize (v4.setCell ⟨gt, 0, none⟩ (.int .i64 V)).setCell ⟨gt, 1, none⟩ (.slice (some ⟨gl, 0, none⟩) n cl) = W9 at Y YF TT2 X2 ⊢
    go_wp2
    go_meet
    exact ⟨gt, gl, cl, F, rfl, X2.out, ⟨Y.out.lt, Y.out.c0, Y.out.c1⟩, YF.out, TT2.out, hgt, hlg, hne2⟩
   refine AllReadyH.cons rfl (fun K hK => ?_) ?_
   ·
    go_simp
    have RT := Lib.hid (RP0.newS v2)
    have lRT := X0.out.bx.lt
    have lRTHE := HE.out.lt
    have hb := bel_alloc v2 (boxS 0 none 0 0)
    replace X0 := Lib.hid (X0.out.next hb)
    replace HE := Lib.hid (HE.out.next hb)
    clear hb hHeld
    generalize v2.alloc (boxS 0 none 0 0) = v5 at X0 HE RT ⊢
    generalize v2.heap.size = gt at RT lRT lRTHE ⊢
    refine hK.out _ _ (⟨X0.out.bx.c0, X0.out.bx.c1⟩) (fun hHeld => ?_)
    clear hK K
    refine wpAnyH_ready (rs := [5]) (by kernel_rfl) (by simp) ?_
    refine AllReadyH.cons rfl (fun K hK => ?_) AllReadyH.nil
    refine step_app_all rfl (.tmp 27) (.tmp 29) rfl ge A n c ls rfl rfl HI.out.1 X0.out.low HE.out (by omega) ?_
    intro gl cl v6 F hb hgl htl
    have lHE2 := HE.out.lt
    have lRT2 := RT.out.bx.lt
    have lX2 := X0.out.bx.lt
    have TT := Lib.hid htl
    replace X0 := Lib.hid (X0.out.next hb)
    replace HE := Lib.hid (HE.out.next hb)
    replace RT := Lib.hid (RT.out.next hb)
    have hne : gt ≠ gl := by rcases hgl with h | h <;> omega
    have hlg : g < gl := by rcases hgl with h | h <;> omega
    clear hb hHeld htl hgl lHE2 lX2 lRT2
    refine hK.out _ _ (⟨X0.out.bx.c0, X0.out.bx.c1⟩) (fun hHeld => ?_)
    clear hK K
    refine tkk 6 31 rfl rfl (by kernel_rfl) (hP · · _) (by rfl) (fun w h => by obtain ⟨h0, h1⟩ := h; go_simp; rfl) (by assumption) ?_
    clear hHeld
    refine wpAnyH_done (by kernel_rfl) ?_ _
    refine HT.out _ _ ?_
    clear HT hP QT
    have hne2 : gt ≠ gl := by omega
    have hgt : g < gt := by omega
    have c0 := RT.out.bx.c0
    have c1 := RT.out.bx.c1
    have f0 := RT.out.fr 0
    have f1 := RT.out.fr 1
    refine wpList_step fun K hK => ?_
    go_simp
    refine hK _ _ ?_
    clear hK K
    refine wpList_nil ?_
    have Y := Lib.hid (RT.out.bx.put V (some ⟨gl, 0, none⟩) n cl)
    have YF := Lib.hid (show FrV ((v6.setCell ⟨gt, 0, none⟩ (.int .i64 V)).setCell ⟨gt, 1, none⟩ (.slice (some ⟨gl, 0, none⟩) n cl)) gt from ⟨by rw [World.size_setCell, World.size_setCell]; exact RT.out.bx.lt, fun o => by rw [World.frozen?_setCell, World.frozen?_setCell]; exact RT.out.fr o⟩)
    have TT2 := Lib.hid ((TT.out.off (p := ⟨gt, 0, none⟩) hne2 (.int .i64 V)).off (p := ⟨gt, 1, none⟩) hne2 (.slice (some ⟨gl, 0, none⟩) n cl))
    have X2 := Lib.hid (show SL w ((v6.setCell ⟨gt, 0, none⟩ (.int .i64 V)).setCell ⟨gt, 1, none⟩ (.slice (some ⟨gl, 0, none⟩) n cl)) g V A n c from ⟨below_store X0.out.low (by have := HG.out; omega) _ _, (X0.out.bx.off9 (a := ⟨gt, 0, none⟩) (by show gt ≠ g; omega) _).off9 (a := ⟨gt, 1, none⟩) (by show gt ≠ g; omega) _⟩)
    clear c0 c1 f0 f1 RT TT X0 HE
    generalize (v6.setCell ⟨gt, 0, none⟩ (.int .i64 V)).setCell ⟨gt, 1, none⟩ (.slice (some ⟨gl, 0, none⟩) n cl) = W9 at Y YF TT2 X2 ⊢
    go_wp2
    go_meet
    exact ⟨gt, gl, cl, F, rfl, X2.out, ⟨Y.out.lt, Y.out.c0, Y.out.c1⟩, YF.out, TT2.out, hgt, hlg, hne2⟩
   exact AllReadyH.nil
  refine AllReadyH.cons rfl (fun K hK => ?_) ?_
  ·
   go_simp
   have RT := Lib.hid (RP0.newS D1)
   have lRT := X0.out.bx.lt
   have hb := bel_alloc D1 (boxS 0 none 0 0)
   replace X0 := Lib.hid (X0.out.next hb)
   clear hb hHeld
   generalize D1.alloc (boxS 0 none 0 0) = v7 at X0 RT ⊢
   generalize D1.heap.size = gt at RT lRT ⊢
   refine hK.out _ _ (⟨X0.out.bx.c0, X0.out.bx.c1⟩) (fun hHeld => ?_)
   clear hK K
   refine wpAnyH_ready (rs := [2]) (by kernel_rfl) (by simp) ?_
   refine AllReadyH.cons rfl (fun K hK => ?_) AllReadyH.nil
   go_simp
   have HE := Lib.hid (EB.new v7)
   have lHE := X0.out.bx.lt
   have lHERT := RT.out.bx.lt
   have hb := bel_alloc v7 (.cells #[] 39)
   replace X0 := Lib.hid (X0.out.next hb)
   replace RT := Lib.hid (RT.out.next hb)
   clear hb hHeld
   generalize v7.alloc (.cells #[] 39) = v8 at X0 RT HE ⊢
   generalize v7.heap.size = ge at HE lHE lHERT ⊢
   refine hK.out _ _ (⟨X0.out.bx.c0, X0.out.bx.c1⟩) (fun hHeld => ?_)
   clear hK K
   refine wpAnyH_ready (rs := [5]) (by kernel_rfl) (by simp) ?_
   refine AllReadyH.cons rfl (fun K hK => ?_) AllReadyH.nil
   refine step_app_all rfl (.tmp 27) (.tmp 29) rfl ge A n c ls rfl rfl HI.out.1 X0.out.low HE.out (by omega) ?_
   intro gl cl v9 F hb hgl htl
   have lHE2 := HE.out.lt
   have lRT2 := RT.out.bx.lt
   have lX2 := X0.out.bx.lt
   have TT := Lib.hid htl
   replace X0 := Lib.hid (X0.out.next hb)
   replace RT := Lib.hid (RT.out.next hb)
   replace HE := Lib.hid (HE.out.next hb)
   have hne : gt ≠ gl := by rcases hgl with h | h <;> omega
   have hlg : g < gl := by rcases hgl with h | h <;> omega
   clear hb hHeld htl hgl lHE2 lX2 lRT2
   refine hK.out _ _ (⟨X0.out.bx.c0, X0.out.bx.c1⟩) (fun hHeld => ?_)
   clear hK K
   refine tkk 6 31 rfl rfl (by kernel_rfl) (hP · · _) (by rfl) (fun w h => by obtain ⟨h0, h1⟩ := h; go_simp; rfl) (by assumption) ?_
   clear hHeld
   refine wpAnyH_done (by kernel_rfl) ?_ _
   refine HT.out _ _ ?_
   clear HT hP QT
   have hne2 : gt ≠ gl := by omega
   have hgt : g < gt := by omega
   have c0 := RT.out.bx.c0
   have c1 := RT.out.bx.c1
   have f0 := RT.out.fr 0
   have f1 := RT.out.fr 1
   refine wpList_step fun K hK => ?_
   go_simp
   refine hK _ _ ?_
   clear hK K
   refine wpList_nil ?_
   have Y := Lib.hid (RT.out.bx.put V (some ⟨gl, 0, none⟩) n cl)
   have YF := Lib.hid (show FrV ((v9.setCell ⟨gt, 0, none⟩ (.int .i64 V)).setCell ⟨gt, 1, none⟩ (.slice (some ⟨gl, 0, none⟩) n cl)) gt from ⟨by rw [World.size_setCell, World.size_setCell]; exact RT.out.bx.lt, fun o => by rw [World.frozen?_setCell, World.frozen?_setCell]; exact RT.out.fr o⟩)
   have TT2 := Lib.hid ((TT.out.off (p := ⟨gt, 0, none⟩) hne2 (.int .i64 V)).off (p := ⟨gt, 1, none⟩) hne2 (.slice (some ⟨gl, 0, none⟩) n cl))
   have X2 := Lib.hid (show SL w ((v9.setCell ⟨gt, 0, none⟩ (.int .i64 V)).setCell ⟨gt, 1, none⟩ (.slice (some ⟨gl, 0, none⟩) n cl)) g V A n c from ⟨below_store X0.out.low (by have := HG.out; omega) _ _, (X0.out.bx.off9 (a := ⟨gt, 0, none⟩) (by show gt ≠ g; omega) _).off9 (a := ⟨gt, 1, none⟩) (by show gt ≠ g; omega) _⟩)
   clear c0 c1 f0 f1 RT TT X0 HE
   generalize (v9.setCell ⟨gt, 0, none⟩ (.int .i64 V)).setCell ⟨gt, 1, none⟩ (.slice (some ⟨gl, 0, none⟩) n cl) = W9 at Y YF TT2 X2 ⊢
   go_wp2
   go_meet
   exact ⟨gt, gl, cl, F, rfl, X2.out, ⟨Y.out.lt, Y.out.c0, Y.out.c1⟩, YF.out, TT2.out, hgt, hlg, hne2⟩
  exact AllReadyH.nil
 case rest =>
  obtain ⟨gt, gl, cl, F, rfl, hx0, hy, hf, htl, l1, l2, l3⟩ := hcut
  clear X0
  have X0 := Lib.hid hx0
  have Y := Lib.hid hy
  have YF := Lib.hid hf
  have TT := Lib.hid (show TL w _ gl n cl (permL ls n (fun k => k)) F by rw [permL_id HL.out.1]; exact htl)
  have LG := Lib.hid (And.intro l1 (And.intro l2 l3))
  clear hx0 hy hf htl l1 l2
  go_wp2
  go_loopw [8] (fun v wr => ∃ (i : Nat) (σ : Nat → Nat) (F : Nat → RawL), v = .int .i64 (i : Int) ∧ i ≤ nt ∧ SL w wr g V A n c ∧ BxY wr gt V (some ⟨gl, 0, none⟩) n cl ∧ FrV wr gt ∧ PermN n σ ∧ TL w wr gl n cl (permL ls n σ) F) (fun v _ => nt - (intOf v).toNat)
  case atStart => exact ⟨0, _, _, rfl, Nat.zero_le _, X0.out, Y.out, YF.out, PermN.id n, TT.out⟩
  case round =>
   clear X0 Y YF TT
   obtain ⟨i, σ, F, rfl, hi, hx0, hy, hf, hp, htl⟩ := hrel
   have X0 := Lib.hid hx0
   have Y := Lib.hid hy
   have YF := Lib.hid hf
   have HP := Lib.hid hp
   have TT := Lib.hid htl
   clear hx0 hy hf hp htl
   have b1 := Y.out.c1
   by_cases hit : i < nt
   · have t1 : decide ((i : Int) < (nt : Int)) = true := decide_eq_true (by omega)
     have t1n : decide (i < nt) = true := decide_eq_true hit
     have t1p : (i : Int) < (nt : Int) := by omega
     by_cases hin : i < n
     · have t2 : decide ((i : Int) < (n : Int)) = true := decide_eq_true (by omega)
       have t2n : decide (i < n) = true := decide_eq_true hin
       have t2p : (i : Int) < (n : Int) := by omega
       obtain ⟨bU, oU, rfl, hltU, hcU⟩ := HU.out.at_ (by omega)
       have u0 := (X0.out.low.cell (p := ⟨bU, oU + i, none⟩) hltU).trans (hcU i hit)
       have hx256 := HU.out.lt i
       obtain ⟨x, hx⟩ : ∃ x, x = bs.getD i 0 := ⟨_, rfl⟩
       rw [← hx] at u0 hx256
       clear hcU hltU hx
       have hn0 : ((n : Int) == 0) = false := by rw [beq_eq_false_iff_ne]; omega
       have hn0p : ¬ ((n : Int) = 0) := by omega
       have hn0n : ¬ n = 0 := by omega
       have wx : IntKind.i64.wrap (x : Int) = (x : Int) := IntWalk.i64_in _ (by omega)
       obtain ⟨k, hk⟩ : ∃ k, k = x % n := ⟨_, rfl⟩
       have hkn : k < n := by rw [hk]; exact Nat.mod_lt _ (by omega)
       have hkx : k ≤ x := by rw [hk]; exact Nat.mod_le _ _
       have wk : IntKind.i64.wrap ((k : Nat) : Int) = (k : Int) := IntWalk.i64_in _ (by omega)
       have ek : (x : Int).tmod (n : Int) = (k : Int) := by rw [hk]; exact (Int.ofNat_tmod x n).symm ▸ rfl
       clear hk
       go_upto_region 7 with (fail)
       refine wp_region_held_drew (S := (fun w' => w'.cell? ⟨bU, (oU + i), none⟩ = some (.int .u8 (x : Int)) ∧ w'.cell? ⟨gt, 1, none⟩ = some (.slice (some ⟨gl, 0, none⟩) n cl))) (by kernel_rfl) (⟨cell_drq u0, cell_drq Y.out.c1⟩) (fun hHeld => ?_)
       replace X0 := Lib.hid (X0.out.next (Below.refl wr.heap.size wr).drew)
       replace Y := Lib.hid (Y.out.next (Below.refl wr.heap.size wr).drew)
       replace YF := Lib.hid (YF.out.next (Below.refl wr.heap.size wr).drew)
       replace TT := Lib.hid (TT.out.next (Below.refl wr.heap.size wr).drew)
       generalize wr.drew = D10 at X0 Y YF TT hHeld ⊢
       refine tkk 0 45 rfl rfl (by kernel_rfl) (fun _ _ _ _ h => h) (by rfl) (fun w h => by obtain ⟨h0, h1⟩ := h; go_simp; rfl) (by assumption) ?_
       simp only [set0, set1]
       refine tkk 1 46 rfl rfl (by kernel_rfl) (fun _ _ _ _ h => h) (by rfl) (fun w h => by obtain ⟨h0, h1⟩ := h; go_simp; rfl) (by assumption) ?_
       simp only [set0, set1]
       refine tkk 2 47 rfl rfl (by kernel_rfl) (fun _ _ _ _ h => h) (by rfl) (fun w h => by obtain ⟨h0, h1⟩ := h; go_simp; rfl) (by assumption) ?_
       simp only [set0, set1]
       refine tkk 3 48 rfl rfl (by kernel_rfl) (fun _ _ _ _ h => h) (by rfl) (fun w h => by obtain ⟨h0, h1⟩ := h; go_simp; rfl) (by assumption) ?_
       simp only [set0, set1]
       refine tkk 4 49 rfl rfl (by kernel_rfl) (fun _ _ _ _ h => h) (by rfl) (fun w h => by obtain ⟨h0, h1⟩ := h; go_simp; rfl) (by assumption) ?_
       simp only [set0, set1]
       refine tkk 5 50 rfl rfl (by kernel_rfl) (fun _ _ _ _ h => h) (by rfl) (fun w h => by obtain ⟨h0, h1⟩ := h; go_simp; rfl) (by assumption) ?_
       simp only [set0, set1]
       refine tkk 6 51 rfl rfl (by kernel_rfl) (fun _ _ _ _ h => h) (by rfl) (fun w h => by obtain ⟨h0, h1⟩ := h; go_simp; rfl) (by assumption) ?_
       simp only [set0, set1]
       refine tkk 7 52 rfl rfl (by kernel_rfl) (fun _ _ _ _ h => h) (by rfl) (fun w h => by obtain ⟨h0, h1⟩ := h; go_simp; rfl) (by assumption) ?_
       simp only [set0, set1]
       refine tkk 8 53 rfl rfl (by kernel_rfl) (fun _ _ _ _ h => h) (by rfl) (fun w h => by obtain ⟨h0, h1⟩ := h; go_simp; rfl) (by assumption) ?_
       simp only [set0, set1]
       refine tkk 9 9 rfl rfl (by kernel_rfl) (fun _ _ _ _ h => h) (by rfl) (fun w h => by obtain ⟨h0, h1⟩ := h; go_simp; rfl) (by assumption) ?_
       clear hHeld
       refine wpAnyH_done (by kernel_rfl) ?_ _
       clear u0 wx ek hkx hx256
       have t3p : (k : Int) < (n : Int) := by omega
       simp only [List.set_cons_zero, List.set_cons_succ]
       have TH1 := Lib.hid TT.out.th
       go_upto_region 8 with (fail)
       refine wp_region_tail (S := (fun w' => w'.cell? ⟨gt, 1, none⟩ = some (.slice (some ⟨gl, 0, none⟩) n cl))) 18 (by kernel_rfl) (by kernel_rfl) (by intro c a d v w h; cases d <;> exact h) (cell_drq Y.out.c1) (fun QT hT hP hHeld => ?_)
       simp only [List.extract_toArray, List.extract_eq_take_drop, List.drop_zero, Nat.sub_zero, List.take_succ_cons, List.take_zero]
       have HT := Lib.hid hT
       clear hT
       replace X0 := Lib.hid (X0.out.next (Below.refl D10.heap.size D10).drew)
       replace Y := Lib.hid (Y.out.next (Below.refl D10.heap.size D10).drew)
       replace YF := Lib.hid (YF.out.next (Below.refl D10.heap.size D10).drew)
       replace TH1 := Lib.hid (TH1.out.next (Below.refl D10.heap.size D10).drew)
       generalize D10.drew = D11 at X0 Y YF TH1 hHeld ⊢
       refine tkk 0 54 rfl rfl (by kernel_rfl) (hP · · _) (by rfl) (fun w h0 => by go_simp; rfl) (by assumption) ?_
       simp only [set0, set1]
       refine tkk 1 55 rfl rfl (by kernel_rfl) (hP · · _) (by rfl) (fun w h0 => by go_simp; rfl) (by assumption) ?_
       simp only [set0, set1]
       refine tkk 2 56 rfl rfl (by kernel_rfl) (hP · · _) (by rfl) (fun w h0 => by go_simp; rfl) (by assumption) ?_
       simp only [set0, set1]
       refine tkk 3 57 rfl rfl (by kernel_rfl) (hP · · _) (by rfl) (fun w h0 => by go_simp; rfl) (by assumption) ?_
       simp only [set0, set1]
       refine tkk 4 58 rfl rfl (by kernel_rfl) (hP · · _) (by rfl) (fun w h0 => by go_simp; rfl) (by assumption) ?_
       simp only [set0, set1]
       refine tkk 5 59 rfl rfl (by kernel_rfl) (hP · · _) (by rfl) (fun w h0 => by go_simp; rfl) (by assumption) ?_
       simp only [set0, set1]
       refine tkk 6 60 rfl rfl (by kernel_rfl) (hP · · _) (by rfl) (fun w h0 => by go_simp; rfl) (by assumption) ?_
       simp only [set0, set1]
       refine tkk 7 61 rfl rfl (by kernel_rfl) (hP · · _) (by rfl) (fun w h0 => by go_simp; rfl) (by assumption) ?_
       simp only [set0, set1]
       refine tkk 8 62 rfl rfl (by kernel_rfl) (hP · · _) (by rfl) (fun w h0 => by go_simp; rfl) (by assumption) ?_
       simp only [set0, set1]
       refine tkk 9 63 rfl rfl (by kernel_rfl) (hP · · _) (by rfl) (fun w h0 => by go_simp; rfl) (by assumption) ?_
       simp only [set0, set1]
       refine tkk 11 65 rfl rfl (by kernel_rfl) (hP · · _) (by rfl) (fun w h0 => by go_simp; rfl) (by assumption) ?_
       simp only [set0, set1]
       refine tkk 12 66 rfl rfl (by kernel_rfl) (hP · · _) (by rfl) (fun w h0 => by go_simp; rfl) (by assumption) ?_
       simp only [set0, set1]
       refine tkk 13 67 rfl rfl (by kernel_rfl) (hP · · _) (by rfl) (fun w h0 => by go_simp; rfl) (by assumption) ?_
       simp only [set0, set1]
       refine tkk 14 68 rfl rfl (by kernel_rfl) (hP · · _) (by rfl) (fun w h0 => by go_simp; rfl) (by assumption) ?_
       simp only [set0, set1]
       refine wpAnyH_ready (rs := [10, 15]) (by kernel_rfl) (by simp) ?_
       refine AllReadyH.cons rfl (fun K hK => ?_) ?_
       ·
        have e0 := TH1.out.c0 hkn
        have e1 := TH1.out.c1 hkn
        have e2 := TH1.out.c2 hkn
        go_simp
        clear e0 e1 e2 hHeld
        refine hK.out _ _ (Y.out.c1) (fun hHeld => ?_)
        clear hK K
        refine wpAnyH_ready (rs := [15]) (by kernel_rfl) (by simp) ?_
        refine AllReadyH.cons rfl (fun K hK => ?_) AllReadyH.nil
        have e0 := TH1.out.c0 hin
        have e1 := TH1.out.c1 hin
        have e2 := TH1.out.c2 hin
        go_simp
        clear e0 e1 e2 hHeld
        refine hK.out _ _ (Y.out.c1) (fun hHeld => ?_)
        clear hK K
        refine tkk 16 70 rfl rfl (by kernel_rfl) (hP · · _) (by rfl) (fun w h0 => by go_simp; rfl) (by assumption) ?_
        simp only [set0, set1]
        refine wpAnyH_ready (rs := [17]) (by kernel_rfl) (by simp) ?_
        refine AllReadyH.cons rfl (fun K hK => ?_) AllReadyH.nil
        have e0 := TH1.out.c0 hin
        have e1 := TH1.out.c1 hin
        have e2 := TH1.out.c2 hin
        have f0 := TH1.out.fr (i * 3)
        have f1 := TH1.out.fr (i * 3 + 1)
        have f2 := TH1.out.fr (i * 3 + 2)
        go_simp
        have TH2 := Lib.hid (show TH (((D11.setCell ⟨gl, i * 3, none⟩ (.int .i64 (F k).k)).setCell ⟨gl, i * 3 + 1, none⟩ (.slice (F k).B (F k).m (F k).d)).setCell ⟨gl, i * 3 + 2, none⟩ (.slice (F k).C (F k).p (F k).q)) gl n (fun m => if m = i then F k else F m) from TH1.out.put (i := i) hin (F k))
        have X2 := Lib.hid (show SL w (((D11.setCell ⟨gl, i * 3, none⟩ (.int .i64 (F k).k)).setCell ⟨gl, i * 3 + 1, none⟩ (.slice (F k).B (F k).m (F k).d)).setCell ⟨gl, i * 3 + 2, none⟩ (.slice (F k).C (F k).p (F k).q)) g V A n c from X0.out.off3 (b := gl) (by have := HG.out; have := LG.out; omega) (by have := LG.out; omega) i (F k))
        have Y2 := Lib.hid (show BxY (((D11.setCell ⟨gl, i * 3, none⟩ (.int .i64 (F k).k)).setCell ⟨gl, i * 3 + 1, none⟩ (.slice (F k).B (F k).m (F k).d)).setCell ⟨gl, i * 3 + 2, none⟩ (.slice (F k).C (F k).p (F k).q)) gt V (some ⟨gl, 0, none⟩) n cl from Y.out.off3 (b := gl) (Ne.symm LG.out.2.2) i (F k))
        have YF2 := Lib.hid (show FrV (((D11.setCell ⟨gl, i * 3, none⟩ (.int .i64 (F k).k)).setCell ⟨gl, i * 3 + 1, none⟩ (.slice (F k).B (F k).m (F k).d)).setCell ⟨gl, i * 3 + 2, none⟩ (.slice (F k).C (F k).p (F k).q)) gt from YF.out.off3 gl i (F k))
        clear e0 e1 e2 f0 f1 f2 hHeld TH1 X0 Y YF
        have TH1 := TH2
        have X0 := X2
        have Y := Y2
        have YF := YF2
        clear TH2 X2 Y2 YF2
        generalize ((D11.setCell ⟨gl, i * 3, none⟩ (.int .i64 (F k).k)).setCell ⟨gl, i * 3 + 1, none⟩ (.slice (F k).B (F k).m (F k).d)).setCell ⟨gl, i * 3 + 2, none⟩ (.slice (F k).C (F k).p (F k).q) = v12 at TH1 X0 Y YF ⊢
        refine hK.out _ _ (Y.out.c1) (fun hHeld => ?_)
        clear hK K
        clear hHeld
        refine wpAnyH_done (by kernel_rfl) ?_ _
        refine HT.out _ _ ?_
        clear HT hP QT
        have e0 := TH1.out.c0 hkn
        have e1 := TH1.out.c1 hkn
        have e2 := TH1.out.c2 hkn
        have f0 := TH1.out.fr (k * 3)
        have f1 := TH1.out.fr (k * 3 + 1)
        have f2 := TH1.out.fr (k * 3 + 2)
        refine wpList_step fun K hK => ?_
        go_simp
        refine hK _ _ ?_
        clear hK K
        refine wpList_step fun K hK => ?_
        go_simp
        refine hK _ _ ?_
        clear hK K
        refine wpList_nil ?_
        have TH2 := Lib.hid (show TH (((v12.setCell ⟨gl, k * 3, none⟩ (.int .i64 (F i).k)).setCell ⟨gl, k * 3 + 1, none⟩ (.slice (F i).B (F i).m (F i).d)).setCell ⟨gl, k * 3 + 2, none⟩ (.slice (F i).C (F i).p (F i).q)) gl n (swapF F i k) from TH1.out.put (i := k) hkn (F i))
        have X2 := Lib.hid (show SL w (((v12.setCell ⟨gl, k * 3, none⟩ (.int .i64 (F i).k)).setCell ⟨gl, k * 3 + 1, none⟩ (.slice (F i).B (F i).m (F i).d)).setCell ⟨gl, k * 3 + 2, none⟩ (.slice (F i).C (F i).p (F i).q)) g V A n c from X0.out.off3 (b := gl) (by have := HG.out; have := LG.out; omega) (by have := LG.out; omega) k (F i))
        have Y2 := Lib.hid (show BxY (((v12.setCell ⟨gl, k * 3, none⟩ (.int .i64 (F i).k)).setCell ⟨gl, k * 3 + 1, none⟩ (.slice (F i).B (F i).m (F i).d)).setCell ⟨gl, k * 3 + 2, none⟩ (.slice (F i).C (F i).p (F i).q)) gt V (some ⟨gl, 0, none⟩) n cl from Y.out.off3 (b := gl) (Ne.symm LG.out.2.2) k (F i))
        have YF2 := Lib.hid (show FrV (((v12.setCell ⟨gl, k * 3, none⟩ (.int .i64 (F i).k)).setCell ⟨gl, k * 3 + 1, none⟩ (.slice (F i).B (F i).m (F i).d)).setCell ⟨gl, k * 3 + 2, none⟩ (.slice (F i).C (F i).p (F i).q)) gt from YF.out.off3 gl k (F i))
        clear e0 e1 e2 f0 f1 f2 TH1 X0 Y YF
        have TH1 := TH2
        have X0 := X2
        have Y := Y2
        have YF := YF2
        clear TH2 X2 Y2 YF2
        generalize ((v12.setCell ⟨gl, k * 3, none⟩ (.int .i64 (F i).k)).setCell ⟨gl, k * 3 + 1, none⟩ (.slice (F i).B (F i).m (F i).d)).setCell ⟨gl, k * 3 + 2, none⟩ (.slice (F i).C (F i).p (F i).q) = v13 at TH1 X0 Y YF ⊢
        have TT2 := Lib.hid (TT.out.done hin hkn TH1.out)
        have HP2 := Lib.hid (HP.out.swap hin hkn)
        clear TT HP t1 t1n t2 t2n hn0 hn0p hn0n wk t3p t1p t2p
        go_wp2
        go_roundw
        case measure => simp [intOf]; omega
        case rel => exact ⟨i + 1, _, _, by go_num, by omega, X0.out, Y.out, YF.out, HP2.out, TT2.out⟩
       refine AllReadyH.cons rfl (fun K hK => ?_) ?_
       ·
        have e0 := TH1.out.c0 hin
        have e1 := TH1.out.c1 hin
        have e2 := TH1.out.c2 hin
        go_simp
        clear e0 e1 e2 hHeld
        refine hK.out _ _ (Y.out.c1) (fun hHeld => ?_)
        clear hK K
        refine wpAnyH_ready (rs := [10]) (by kernel_rfl) (by simp) ?_
        refine AllReadyH.cons rfl (fun K hK => ?_) AllReadyH.nil
        have e0 := TH1.out.c0 hkn
        have e1 := TH1.out.c1 hkn
        have e2 := TH1.out.c2 hkn
        go_simp
        clear e0 e1 e2 hHeld
        refine hK.out _ _ (Y.out.c1) (fun hHeld => ?_)
        clear hK K
        refine tkk 16 70 rfl rfl (by kernel_rfl) (hP · · _) (by rfl) (fun w h0 => by go_simp; rfl) (by assumption) ?_
        simp only [set0, set1]
        refine wpAnyH_ready (rs := [17]) (by kernel_rfl) (by simp) ?_
        refine AllReadyH.cons rfl (fun K hK => ?_) AllReadyH.nil
        have e0 := TH1.out.c0 hin
        have e1 := TH1.out.c1 hin
        have e2 := TH1.out.c2 hin
        have f0 := TH1.out.fr (i * 3)
        have f1 := TH1.out.fr (i * 3 + 1)
        have f2 := TH1.out.fr (i * 3 + 2)
        go_simp
        have TH2 := Lib.hid (show TH (((D11.setCell ⟨gl, i * 3, none⟩ (.int .i64 (F k).k)).setCell ⟨gl, i * 3 + 1, none⟩ (.slice (F k).B (F k).m (F k).d)).setCell ⟨gl, i * 3 + 2, none⟩ (.slice (F k).C (F k).p (F k).q)) gl n (fun m => if m = i then F k else F m) from TH1.out.put (i := i) hin (F k))
        have X2 := Lib.hid (show SL w (((D11.setCell ⟨gl, i * 3, none⟩ (.int .i64 (F k).k)).setCell ⟨gl, i * 3 + 1, none⟩ (.slice (F k).B (F k).m (F k).d)).setCell ⟨gl, i * 3 + 2, none⟩ (.slice (F k).C (F k).p (F k).q)) g V A n c from X0.out.off3 (b := gl) (by have := HG.out; have := LG.out; omega) (by have := LG.out; omega) i (F k))
        have Y2 := Lib.hid (show BxY (((D11.setCell ⟨gl, i * 3, none⟩ (.int .i64 (F k).k)).setCell ⟨gl, i * 3 + 1, none⟩ (.slice (F k).B (F k).m (F k).d)).setCell ⟨gl, i * 3 + 2, none⟩ (.slice (F k).C (F k).p (F k).q)) gt V (some ⟨gl, 0, none⟩) n cl from Y.out.off3 (b := gl) (Ne.symm LG.out.2.2) i (F k))
        have YF2 := Lib.hid (show FrV (((D11.setCell ⟨gl, i * 3, none⟩ (.int .i64 (F k).k)).setCell ⟨gl, i * 3 + 1, none⟩ (.slice (F k).B (F k).m (F k).d)).setCell ⟨gl, i * 3 + 2, none⟩ (.slice (F k).C (F k).p (F k).q)) gt from YF.out.off3 gl i (F k))
        clear e0 e1 e2 f0 f1 f2 hHeld TH1 X0 Y YF
        have TH1 := TH2
        have X0 := X2
        have Y := Y2
        have YF := YF2
        clear TH2 X2 Y2 YF2
        generalize ((D11.setCell ⟨gl, i * 3, none⟩ (.int .i64 (F k).k)).setCell ⟨gl, i * 3 + 1, none⟩ (.slice (F k).B (F k).m (F k).d)).setCell ⟨gl, i * 3 + 2, none⟩ (.slice (F k).C (F k).p (F k).q) = v14 at TH1 X0 Y YF ⊢
        refine hK.out _ _ (Y.out.c1) (fun hHeld => ?_)
        clear hK K
        clear hHeld
        refine wpAnyH_done (by kernel_rfl) ?_ _
        refine HT.out _ _ ?_
        clear HT hP QT
        have e0 := TH1.out.c0 hkn
        have e1 := TH1.out.c1 hkn
        have e2 := TH1.out.c2 hkn
        have f0 := TH1.out.fr (k * 3)
        have f1 := TH1.out.fr (k * 3 + 1)
        have f2 := TH1.out.fr (k * 3 + 2)
        refine wpList_step fun K hK => ?_
        go_simp
        refine hK _ _ ?_
        clear hK K
        refine wpList_step fun K hK => ?_
        go_simp
        refine hK _ _ ?_
        clear hK K
        refine wpList_nil ?_
        have TH2 := Lib.hid (show TH (((v14.setCell ⟨gl, k * 3, none⟩ (.int .i64 (F i).k)).setCell ⟨gl, k * 3 + 1, none⟩ (.slice (F i).B (F i).m (F i).d)).setCell ⟨gl, k * 3 + 2, none⟩ (.slice (F i).C (F i).p (F i).q)) gl n (swapF F i k) from TH1.out.put (i := k) hkn (F i))
        have X2 := Lib.hid (show SL w (((v14.setCell ⟨gl, k * 3, none⟩ (.int .i64 (F i).k)).setCell ⟨gl, k * 3 + 1, none⟩ (.slice (F i).B (F i).m (F i).d)).setCell ⟨gl, k * 3 + 2, none⟩ (.slice (F i).C (F i).p (F i).q)) g V A n c from X0.out.off3 (b := gl) (by have := HG.out; have := LG.out; omega) (by have := LG.out; omega) k (F i))
        have Y2 := Lib.hid (show BxY (((v14.setCell ⟨gl, k * 3, none⟩ (.int .i64 (F i).k)).setCell ⟨gl, k * 3 + 1, none⟩ (.slice (F i).B (F i).m (F i).d)).setCell ⟨gl, k * 3 + 2, none⟩ (.slice (F i).C (F i).p (F i).q)) gt V (some ⟨gl, 0, none⟩) n cl from Y.out.off3 (b := gl) (Ne.symm LG.out.2.2) k (F i))
        have YF2 := Lib.hid (show FrV (((v14.setCell ⟨gl, k * 3, none⟩ (.int .i64 (F i).k)).setCell ⟨gl, k * 3 + 1, none⟩ (.slice (F i).B (F i).m (F i).d)).setCell ⟨gl, k * 3 + 2, none⟩ (.slice (F i).C (F i).p (F i).q)) gt from YF.out.off3 gl k (F i))
        clear e0 e1 e2 f0 f1 f2 TH1 X0 Y YF
        have TH1 := TH2
        have X0 := X2
        have Y := Y2
        have YF := YF2
        clear TH2 X2 Y2 YF2
        generalize ((v14.setCell ⟨gl, k * 3, none⟩ (.int .i64 (F i).k)).setCell ⟨gl, k * 3 + 1, none⟩ (.slice (F i).B (F i).m (F i).d)).setCell ⟨gl, k * 3 + 2, none⟩ (.slice (F i).C (F i).p (F i).q) = v15 at TH1 X0 Y YF ⊢
        have TT2 := Lib.hid (TT.out.done hin hkn TH1.out)
        have HP2 := Lib.hid (HP.out.swap hin hkn)
        clear TT HP t1 t1n t2 t2n hn0 hn0p hn0n wk t3p t1p t2p
        go_wp2
        go_roundw
        case measure => simp [intOf]; omega
        case rel => exact ⟨i + 1, _, _, by go_num, by omega, X0.out, Y.out, YF.out, HP2.out, TT2.out⟩
       exact AllReadyH.nil
     · have t2 : decide ((i : Int) < (n : Int)) = false := decide_eq_false (by omega)
       have t2n : decide (i < n) = false := decide_eq_false hin
       have a0 := X0.out.bx.c0
       have a1 := X0.out.bx.c1
       go_wp2_with fail
       refine (sysHolds_c T V A n c ls X nx cx ns _ (HI.out.1.below X0.out.low) (HI.out.2.below X0.out.low) HN.out.2 (fun _ _ => HT.out)).mono ?_
       rintro e w4 hH
       have HQ := Lib.hid hH
       have HLp := Lib.hid (permL_len ls n σ)
       have HTp := Lib.hid (show ∀ i, i < (permL ls n σ).length → ∀ j, j < (lnkAt (permL ls n σ) i).ps.length → allV (plyAt (lnkAt (permL ls n σ) i).ps j).ts (ownOf (lnkAt (permL ls n σ) i).vs ns) (plyAt (lnkAt (permL ls n σ) i).ps j).ts.length ≤ T from fun i hi => by
        rw [HLp.out] at hi
        rw [permL_at hi]
        exact HT.out _ (by rw [HL.out.1]; exact HP.out.inn i hi))
       have HV := Lib.hid (perm_valid (V := V) HL.out.1 HP.out)
       have HHB := Lib.hid (perm_holds (ns := ns) HL.out.1 HP.out)
       clear hH
       by_cases qv : (validS V ls && allB ns) = true
       case neg =>
        have qf : (validS V ls && allB ns) = false := by simpa using qv
        obtain ⟨rfl, hb⟩ := HQ.out.form qf
        have QF := Lib.hid qf
        clear qv qf
        replace X0 := Lib.hid (X0.out.next hb)
        replace Y := Lib.hid (Y.out.next hb)
        replace TT := Lib.hid (TT.out.next hb)
        clear hb a0 a1
        have a0 := Y.out.c0
        have a1 := Y.out.c1
        go_wp2_with fail
        refine (sysHolds_c T V (some ⟨gl, 0, none⟩) n cl (permL ls n σ) X nx cx ns _ (TT.out.rd HLp.out X0.out.low) (HI.out.2.below X0.out.low) HN.out.2 (fun _ _ => HTp.out)).mono ?_
        rintro e w5 hG
        obtain ⟨rfl, hb2⟩ := hG.form (by rw [HV.out]; exact QF.out)
        clear hG
        replace X0 := Lib.hid (X0.out.next hb2)
        clear hb2 a0 a1
        go_wp2_with fail
        refine (awake9_c _).mono ?_
        rintro e w9 ⟨rfl, hb⟩
        have P := Lib.hid (X0.out.low.trans (hb.mono X0.out.low.size))
        clear hb
        go_wp2
        go_ret
        exact ⟨rfl, P.out⟩
       by_cases qa : (ns.length : Int) = V ∧ natB ns = true
       case neg =>
        have qb : ¬ (ns.length : Int) = V ∨ natB ns = false := by
         by_cases e : (ns.length : Int) = V
         · right
           cases e2 : natB ns with
           | false => rfl
           | true => exact absurd ⟨e, e2⟩ qa
         · exact .inl e
        obtain ⟨rfl, hb⟩ := HQ.out.arg qv qb
        have QV := Lib.hid qv
        have QB := Lib.hid qb
        clear qv qa qb
        replace X0 := Lib.hid (X0.out.next hb)
        replace Y := Lib.hid (Y.out.next hb)
        replace TT := Lib.hid (TT.out.next hb)
        clear hb a0 a1
        have a0 := Y.out.c0
        have a1 := Y.out.c1
        go_wp2_with fail
        refine (sysHolds_c T V (some ⟨gl, 0, none⟩) n cl (permL ls n σ) X nx cx ns _ (TT.out.rd HLp.out X0.out.low) (HI.out.2.below X0.out.low) HN.out.2 (fun _ _ => HTp.out)).mono ?_
        rintro e w5 hG
        obtain ⟨rfl, hb2⟩ := hG.arg (by rw [HV.out]; exact QV.out) QB.out
        clear hG
        replace X0 := Lib.hid (X0.out.next hb2)
        clear hb2 a0 a1
        go_wp2_with fail
        refine (awake9_c _).mono ?_
        rintro e w9 ⟨rfl, hb⟩
        have P := Lib.hid (X0.out.low.trans (hb.mono X0.out.low.size))
        clear hb
        go_wp2
        go_ret
        exact ⟨rfl, P.out⟩
       obtain ⟨r1, k1, rfl, hs1, hr1, hz1, hb⟩ := HQ.out.val qv qa.1 qa.2
       have QV := Lib.hid qv
       have QA := Lib.hid qa
       have HR1 := Lib.hid (And.intro hs1 (And.intro hr1 hz1))
       clear qv qa hs1 hr1 hz1
       replace X0 := Lib.hid (X0.out.next hb)
       replace Y := Lib.hid (Y.out.next hb)
       replace TT := Lib.hid (TT.out.next hb)
       clear hb a0 a1
       have a0 := Y.out.c0
       have a1 := Y.out.c1
       go_wp2_with fail
       refine (sysHolds_c T V (some ⟨gl, 0, none⟩) n cl (permL ls n σ) X nx cx ns _ (TT.out.rd HLp.out X0.out.low) (HI.out.2.below X0.out.low) HN.out.2 (fun _ _ => HTp.out)).mono ?_
       rintro e w5 hG
       obtain ⟨r2, k2, rfl, hs2, hr2, hz2, hb2⟩ := hG.val (by rw [HV.out]; exact QV.out) QA.out.1 QA.out.2
       have HR2 := Lib.hid (And.intro hs2 (And.intro hr2 hz2))
       clear hG hs2 hr2 hz2
       rcases HR1.out.1 with e1 | ⟨e1, -⟩
       · have e3 := HR1.out.2.1 e1
         subst e1 e3
         obtain ⟨y, hy⟩ : ∃ x, x = holdsB ls ns := ⟨_, rfl⟩
         have HY := Lib.hid hy
         rw [← hy]
         clear hy
         rcases HR2.out.1 with e2 | ⟨e2, -⟩
         · have e4 := HR2.out.2.1 e2
           rw [HHB.out, ← HY.out] at e4
           subst e2 e4
           clear HR1 HR2
           replace X0 := Lib.hid (X0.out.next hb2)
           clear hb2 a0 a1
           go_wp2_with fail
           refine (awake9_c _).mono ?_
           rintro e w9 ⟨rfl, hb⟩
           have P := Lib.hid (X0.out.low.trans (hb.mono X0.out.low.size))
           clear hb
           go_wp2
           go_ret
           exact ⟨rfl, P.out⟩
         · have e4 := HR2.out.2.2 (by omega)
           subst e2 e4
           clear HR1 HR2
           replace X0 := Lib.hid (X0.out.next hb2)
           clear hb2 a0 a1
           go_wp2_with fail
           refine (awake9_c _).mono ?_
           rintro e w9 ⟨rfl, hb⟩
           have P := Lib.hid (X0.out.low.trans (hb.mono X0.out.low.size))
           clear hb
           go_wp2
           go_ret
           exact ⟨rfl, P.out⟩
       · have e3 := HR1.out.2.2 (by omega)
         subst e1 e3
         rcases HR2.out.1 with e2 | ⟨e2, -⟩
         · have e4 := HR2.out.2.1 e2
           rw [HHB.out] at e4
           obtain ⟨y, hy⟩ : ∃ x, x = holdsB ls ns := ⟨_, rfl⟩
           rw [← hy] at e4
           subst e2 e4
           clear hy HR1 HR2
           replace X0 := Lib.hid (X0.out.next hb2)
           clear hb2 a0 a1
           go_wp2_with fail
           refine (awake9_c _).mono ?_
           rintro e w9 ⟨rfl, hb⟩
           have P := Lib.hid (X0.out.low.trans (hb.mono X0.out.low.size))
           clear hb
           go_wp2
           go_ret
           exact ⟨rfl, P.out⟩
         · have e4 := HR2.out.2.2 (by omega)
           subst e2 e4
           clear HR1 HR2
           replace X0 := Lib.hid (X0.out.next hb2)
           clear hb2 a0 a1
           go_wp2_with fail
           refine (awake9_c _).mono ?_
           rintro e w9 ⟨rfl, hb⟩
           have P := Lib.hid (X0.out.low.trans (hb.mono X0.out.low.size))
           clear hb
           go_wp2
           go_ret
           exact ⟨rfl, P.out⟩
   · have t1 : decide ((i : Int) < (nt : Int)) = false := decide_eq_false (by omega)
     have t1n : decide (i < nt) = false := decide_eq_false hit
     have a0 := X0.out.bx.c0
     have a1 := X0.out.bx.c1
     go_wp2_with fail
     refine (sysHolds_c T V A n c ls X nx cx ns _ (HI.out.1.below X0.out.low) (HI.out.2.below X0.out.low) HN.out.2 (fun _ _ => HT.out)).mono ?_
     rintro e w4 hH
     have HQ := Lib.hid hH
     have HLp := Lib.hid (permL_len ls n σ)
     have HTp := Lib.hid (show ∀ i, i < (permL ls n σ).length → ∀ j, j < (lnkAt (permL ls n σ) i).ps.length → allV (plyAt (lnkAt (permL ls n σ) i).ps j).ts (ownOf (lnkAt (permL ls n σ) i).vs ns) (plyAt (lnkAt (permL ls n σ) i).ps j).ts.length ≤ T from fun i hi => by
      rw [HLp.out] at hi
      rw [permL_at hi]
      exact HT.out _ (by rw [HL.out.1]; exact HP.out.inn i hi))
     have HV := Lib.hid (perm_valid (V := V) HL.out.1 HP.out)
     have HHB := Lib.hid (perm_holds (ns := ns) HL.out.1 HP.out)
     clear hH
     by_cases qv : (validS V ls && allB ns) = true
     case neg =>
      have qf : (validS V ls && allB ns) = false := by simpa using qv
      obtain ⟨rfl, hb⟩ := HQ.out.form qf
      have QF := Lib.hid qf
      clear qv qf
      replace X0 := Lib.hid (X0.out.next hb)
      replace Y := Lib.hid (Y.out.next hb)
      replace TT := Lib.hid (TT.out.next hb)
      clear hb a0 a1
      have a0 := Y.out.c0
      have a1 := Y.out.c1
      go_wp2_with fail
      refine (sysHolds_c T V (some ⟨gl, 0, none⟩) n cl (permL ls n σ) X nx cx ns _ (TT.out.rd HLp.out X0.out.low) (HI.out.2.below X0.out.low) HN.out.2 (fun _ _ => HTp.out)).mono ?_
      rintro e w5 hG
      obtain ⟨rfl, hb2⟩ := hG.form (by rw [HV.out]; exact QF.out)
      clear hG
      replace X0 := Lib.hid (X0.out.next hb2)
      clear hb2 a0 a1
      go_wp2_with fail
      refine (awake9_c _).mono ?_
      rintro e w9 ⟨rfl, hb⟩
      have P := Lib.hid (X0.out.low.trans (hb.mono X0.out.low.size))
      clear hb
      go_wp2
      go_ret
      exact ⟨rfl, P.out⟩
     by_cases qa : (ns.length : Int) = V ∧ natB ns = true
     case neg =>
      have qb : ¬ (ns.length : Int) = V ∨ natB ns = false := by
       by_cases e : (ns.length : Int) = V
       · right
         cases e2 : natB ns with
         | false => rfl
         | true => exact absurd ⟨e, e2⟩ qa
       · exact .inl e
      obtain ⟨rfl, hb⟩ := HQ.out.arg qv qb
      have QV := Lib.hid qv
      have QB := Lib.hid qb
      clear qv qa qb
      replace X0 := Lib.hid (X0.out.next hb)
      replace Y := Lib.hid (Y.out.next hb)
      replace TT := Lib.hid (TT.out.next hb)
      clear hb a0 a1
      have a0 := Y.out.c0
      have a1 := Y.out.c1
      go_wp2_with fail
      refine (sysHolds_c T V (some ⟨gl, 0, none⟩) n cl (permL ls n σ) X nx cx ns _ (TT.out.rd HLp.out X0.out.low) (HI.out.2.below X0.out.low) HN.out.2 (fun _ _ => HTp.out)).mono ?_
      rintro e w5 hG
      obtain ⟨rfl, hb2⟩ := hG.arg (by rw [HV.out]; exact QV.out) QB.out
      clear hG
      replace X0 := Lib.hid (X0.out.next hb2)
      clear hb2 a0 a1
      go_wp2_with fail
      refine (awake9_c _).mono ?_
      rintro e w9 ⟨rfl, hb⟩
      have P := Lib.hid (X0.out.low.trans (hb.mono X0.out.low.size))
      clear hb
      go_wp2
      go_ret
      exact ⟨rfl, P.out⟩
     obtain ⟨r1, k1, rfl, hs1, hr1, hz1, hb⟩ := HQ.out.val qv qa.1 qa.2
     have QV := Lib.hid qv
     have QA := Lib.hid qa
     have HR1 := Lib.hid (And.intro hs1 (And.intro hr1 hz1))
     clear qv qa hs1 hr1 hz1
     replace X0 := Lib.hid (X0.out.next hb)
     replace Y := Lib.hid (Y.out.next hb)
     replace TT := Lib.hid (TT.out.next hb)
     clear hb a0 a1
     have a0 := Y.out.c0
     have a1 := Y.out.c1
     go_wp2_with fail
     refine (sysHolds_c T V (some ⟨gl, 0, none⟩) n cl (permL ls n σ) X nx cx ns _ (TT.out.rd HLp.out X0.out.low) (HI.out.2.below X0.out.low) HN.out.2 (fun _ _ => HTp.out)).mono ?_
     rintro e w5 hG
     obtain ⟨r2, k2, rfl, hs2, hr2, hz2, hb2⟩ := hG.val (by rw [HV.out]; exact QV.out) QA.out.1 QA.out.2
     have HR2 := Lib.hid (And.intro hs2 (And.intro hr2 hz2))
     clear hG hs2 hr2 hz2
     rcases HR1.out.1 with e1 | ⟨e1, -⟩
     · have e3 := HR1.out.2.1 e1
       subst e1 e3
       obtain ⟨y, hy⟩ : ∃ x, x = holdsB ls ns := ⟨_, rfl⟩
       have HY := Lib.hid hy
       rw [← hy]
       clear hy
       rcases HR2.out.1 with e2 | ⟨e2, -⟩
       · have e4 := HR2.out.2.1 e2
         rw [HHB.out, ← HY.out] at e4
         subst e2 e4
         clear HR1 HR2
         replace X0 := Lib.hid (X0.out.next hb2)
         clear hb2 a0 a1
         go_wp2_with fail
         refine (awake9_c _).mono ?_
         rintro e w9 ⟨rfl, hb⟩
         have P := Lib.hid (X0.out.low.trans (hb.mono X0.out.low.size))
         clear hb
         go_wp2
         go_ret
         exact ⟨rfl, P.out⟩
       · have e4 := HR2.out.2.2 (by omega)
         subst e2 e4
         clear HR1 HR2
         replace X0 := Lib.hid (X0.out.next hb2)
         clear hb2 a0 a1
         go_wp2_with fail
         refine (awake9_c _).mono ?_
         rintro e w9 ⟨rfl, hb⟩
         have P := Lib.hid (X0.out.low.trans (hb.mono X0.out.low.size))
         clear hb
         go_wp2
         go_ret
         exact ⟨rfl, P.out⟩
     · have e3 := HR1.out.2.2 (by omega)
       subst e1 e3
       rcases HR2.out.1 with e2 | ⟨e2, -⟩
       · have e4 := HR2.out.2.1 e2
         rw [HHB.out] at e4
         obtain ⟨y, hy⟩ : ∃ x, x = holdsB ls ns := ⟨_, rfl⟩
         rw [← hy] at e4
         subst e2 e4
         clear hy HR1 HR2
         replace X0 := Lib.hid (X0.out.next hb2)
         clear hb2 a0 a1
         go_wp2_with fail
         refine (awake9_c _).mono ?_
         rintro e w9 ⟨rfl, hb⟩
         have P := Lib.hid (X0.out.low.trans (hb.mono X0.out.low.size))
         clear hb
         go_wp2
         go_ret
         exact ⟨rfl, P.out⟩
       · have e4 := HR2.out.2.2 (by omega)
         subst e2 e4
         clear HR1 HR2
         replace X0 := Lib.hid (X0.out.next hb2)
         clear hb2 a0 a1
         go_wp2_with fail
         refine (awake9_c _).mono ?_
         rintro e w9 ⟨rfl, hb⟩
         have P := Lib.hid (X0.out.low.trans (hb.mono X0.out.low.size))
         clear hb
         go_wp2
         go_ret
         exact ⟨rfl, P.out⟩
end Go.Proofs.Yteabokkofoomkaa

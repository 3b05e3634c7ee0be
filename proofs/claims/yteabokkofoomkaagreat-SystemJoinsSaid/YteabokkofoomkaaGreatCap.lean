import Derived.Test.YteabokkofoomkaaGreatCak
import Derived.Test.YteabokkofoomkaaGreatCao
set_option maxRecDepth 100000
namespace Go.Proofs.YteabokkofoomkaaGreat
open Go.RowKit Go.Shelf Go.Deep
set_option maxHeartbeats 8000000 in
theorem value_c (T b : Nat) (k : Int) (w0 w : World) (s : Bool) (A : Option Addr) (n c : Nat) (xs : List Nat) (B : Option Addr) (m d : Nat) (es : List Int) (C : Option Addr) (cd : Nat) (ns : List Nmr)
 (hlow : Below w0.heap.size w0 w) (hb0 : w0.heap.size ≤ b) (hcc : Cc w b k) (hst : St T k) (hrd : Rd w0 A n xs) (hnc : n ≤ c) (hcm : c ≤ 9223372036854775807) (hv : validB s xs = true)
 (hri : RdI w0 B m es) (he : ExpsIn es) (hm : m ≤ 1000000) (hns : RdN w0 C m ns) (hval : allB ns = true) (hz0 : trZ ⟨s, xs, es⟩ ≠ 0) (hT : (tVal ⟨s, xs, es⟩ ns).natAbs ≤ T) :
 Calls Tryz.prog 113 #[.pointer (some ⟨b, 0, none⟩), aggT s A n c B m d, .slice C m cd] w (Wv T b k (tVal ⟨s, xs, es⟩ ns) w) := by
 have k0 := bel_alloc w (boxT s A n c B m d)
 have k1 := bel_alloc (w.alloc (boxT s A n c B m d)) (.cells #[.bool false, .slice none 0 0] 58)
 have P := Lib.hid (k0.trans (k1.mono k0.size))
 have X := Lib.hid ((BxT.new w s A n c B m d).next k1)
 have RS := Lib.hid (NV.new (w.alloc (boxT s A n c B m d)) false none 0 0)
 rw [World.size_alloc] at RS
 have HLO := Lib.hid (And.intro hlow (And.intro hb0 (And.intro hcc hst)))
 have HI := Lib.hid (And.intro hri (And.intro he (And.intro hns (And.intro hval (And.intro hz0 hT)))))
 have HIV := Lib.hid (And.intro hrd (And.intro hnc (And.intro hcm hv)))
 have HL := Lib.hid (And.intro hri.len hns.len)
 have HM := Lib.hid hm
 have HLT := Lib.hid hcc.lt
 clear k0 k1 hlow hb0 hcc hst hri he hns hval hz0 hT hrd hnc hcm hv hm
 go_enter Tryz.func113, Tryz.ntmps113
 go_upto_region 1 with (fail)
 generalize (w.alloc (boxT s A n c B m d)).alloc (.cells #[.bool false, .slice none 0 0] 58) = W0 at P X RS ⊢
 obtain ⟨g, hg⟩ : ∃ g, g = w.heap.size := ⟨_, rfl⟩
 have HG := Lib.hid hg
 rw [← hg] at X RS ⊢
 clear hg
 have a2 := X.out.c2
 go_wp2
 go_loopw [15] (fun v wr => ∃ j : Nat, v = .int .i64 (j : Int) ∧ j ≤ m ∧ Below w.heap.size w wr ∧ BxT wr g s A n c B m d ∧ NV wr (g + 1) false none 0 0 ∧ ∀ i, i < j → 0 < es.getD i 0 → nmZ (nmAt ns i) ≠ 0) (fun v _ => m - (intOf v).toNat)
 case atStart => exact ⟨0, rfl, Nat.zero_le _, P.out, X.out, RS.out, fun i hi => absurd hi (by omega)⟩
 case round =>
  obtain ⟨j, rfl, hj, hp, hx, hr, hall⟩ := hrel
  clear P X RS a2
  have hmm := HM.out
  have P := Lib.hid hp
  have X := Lib.hid hx
  have RS := Lib.hid hr
  have HA := Lib.hid hall
  have hlow := HLO.out.1.trans (hp.mono HLO.out.1.size)
  clear hp hx hr hall
  by_cases hjm : j < m
  · have t1 : decide ((j : Int) < (m : Int)) = true := decide_eq_true (by omega)
    have t1n : decide (j < m) = true := decide_eq_true hjm
    have hjI : (j : Int) < (m : Int) := by omega
    obtain ⟨bE, oE, hBE, _, hcE⟩ := (HI.out.1.below hlow).at_ (by omega)
    have c0 := hcE j hjm
    obtain ⟨bN, oN, hCN, hltN, hcN⟩ := (HI.out.2.2.1.below hlow).at_ (by omega)
    obtain ⟨A1, n1, c1, hN⟩ := hcN j hjm
    have d0 := hN.c0
    have d1 := hN.c1
    have HN0 := Lib.hid (rawIv hN.rd (by have := HI.out.2.2.2.1; simp only [allB, decide_eq_true_eq] at this; exact this j (by rw [HL.out.2]; exact hjm)) hN.nc hN.cm)
    have HZN := Lib.hid (zero_iff HN0.out.is)
    obtain ⟨sN, hsN⟩ : ∃ x, x = (nmAt ns j).s := ⟨_, rfl⟩
    rw [← hsN] at d0
    obtain ⟨z, hz⟩ : ∃ z, z = es.getD j 0 := ⟨_, rfl⟩
    rw [← hz] at c0
    have HZ := Lib.hid hz
    subst hBE hCN
    clear hcE hcN hN HN0 hsN hz hlow
    by_cases z0 : 0 < z
    · have t2 : decide (0 < z) = true := decide_eq_true z0
      go_wp2_with fail
      refine (czero_c sN A1 n1 c1 _).mono ?_
      rintro e w1 ⟨rfl, hb⟩
      replace P := Lib.hid (P.out.trans (hb.mono P.out.size))
      replace X := Lib.hid (X.out.next hb)
      replace RS := Lib.hid (RS.out.next hb)
      clear hb c0 d0 d1 hltN
      by_cases hn1 : n1 = 0
      · rw [decide_eq_true hn1]
        have HF := Lib.hid (show tVal ⟨s, xs, es⟩ ns = 0 by
         show trZ _ * prodI es ns es.length = 0
         rw [prodI_zero (i := j) (by rw [HL.out.1]; exact hjm) (by rw [← HZ.out]; exact z0) (HZN.out.1 hn1), Int.mul_zero])
        have r0 := RS.out.r0
        have r1 := RS.out.r1
        have f0 := RS.out.f0
        have f1 := RS.out.f1
        clear hn1
        go_wp2
        refine bodyPost_ret (v := .agg #[.bool false, .slice none 0 0]) (by simp [results, Tryz.results113, go_sem, r0, r1]) rfl ?_
        have hbw := below_store P.out (g := g + 1) (by have := HG.out; omega) (.bool false) (.slice none 0 0)
        exact ⟨false, none, 0, 0, k, rfl, Stp.of_below HLT.out hbw, HLO.out.2.2.1.below hbw, fun h => ⟨h, by rw [HF.out]; exact ⟨zero_is _, by show (0 : Int).natAbs < pw 4096; exact pw_pos 4096⟩⟩, HLO.out.2.2.2⟩
      · rw [decide_eq_false hn1]
        have HNZ := Lib.hid (fun h0 => hn1 (HZN.out.2 h0))
        clear hn1
        go_wp2
        go_roundw
        case measure => simp [intOf]; omega
        case rel => exact ⟨j + 1, by go_num, by omega, P.out, X.out, RS.out, fun i hi h0 => by
         by_cases e : i = j
         · subst e; exact HNZ.out
         · exact HA.out i (by omega) h0⟩
    · have t2 : decide (0 < z) = false := decide_eq_false z0
      go_wp2
      go_roundw
      case measure => simp [intOf]; omega
      case rel => exact ⟨j + 1, by go_num, by omega, P.out, X.out, RS.out, fun i hi h0 => by
       by_cases e : i = j
       · subst e; exact absurd h0 (by rw [← HZ.out]; exact z0)
       · exact HA.out i (by omega) h0⟩
  · have t1 : decide ((j : Int) < (m : Int)) = false := decide_eq_false (by omega)
    have t1n : decide (j < m) = false := decide_eq_false hjm
    have HTN := Lib.hid (show tVal ⟨s, xs, es⟩ ns ≠ 0 from Int.mul_ne_zero HI.out.2.2.2.2.1 (prodI_ne _ fun i hi => HA.out i (by have := HL.out.1; dsimp only at hi; omega)))
    obtain ⟨g9, hg9⟩ : ∃ q, q = wr.heap.size := ⟨_, rfl⟩
    have hb9 := bel_alloc wr (.cells #[.bool s, .slice A n c] 58)
    have Y := Lib.hid (NV.new wr s A n c)
    rw [← hg9] at Y
    have HG9 := Lib.hid (show w.heap.size ≤ g9 ∧ g9 ≠ g + 1 by have h1 := P.out.size; have h2 := RS.out.lt; omega)
    have x0 := X.out.c0
    have x1 := X.out.c1
    have x2 := X.out.c2
    have gl : g < wr.heap.size := X.out.lt
    replace P := Lib.hid (P.out.trans (hb9.mono P.out.size))
    have RS1 := Lib.hid (RS.out.next hb9)
    have HX := Lib.hid hg9
    clear hg9 hlow hb9 HA X
    go_wp2
    rw [← HX.out]
    generalize wr.alloc (.cells #[.bool s, .slice A n c] 58) = W9 at P Y RS1 ⊢
    clear RS x0 x1 x2 gl t1 t1n
    have RS := RS1
    clear RS1
    have V := Lib.hid (show VS w0 w b W9 k from ⟨HLO.out.1.trans (P.out.mono HLO.out.1.size), Stp.of_below HLT.out P.out, HLO.out.2.2.1.below P.out⟩)
    have IV := Lib.hid (show Ivk W9 k k (trZ ⟨s, xs, es⟩ * prodI es ns 0) s A n c from ⟨fun h => ⟨h, by
     rw [show prodI es ns 0 = 1 from rfl, Int.mul_one]
     exact (rawIv HIV.out.1 HIV.out.2.2.2 HIV.out.2.1 HIV.out.2.2.1).below V.out.low⟩⟩)
    clear P HX
    go_loopw [36] (fun v wr => ∃ (j : Nat) (k' : Int) (t' : Bool) (B' : Option Addr) (m' d' : Nat), v = .int .i64 (j : Int) ∧ j ≤ m ∧ VS w0 w b wr k' ∧ NV wr (g + 1) false none 0 0 ∧ NV wr g9 t' B' m' d' ∧ Ivk wr k k' (trZ ⟨s, xs, es⟩ * prodI es ns j) t' B' m' d' ∧ St T k') (fun v _ => m - (intOf v).toNat)
    case atStart => exact ⟨0, k, s, A, n, c, rfl, Nat.zero_le _, V.out, RS.out, Y.out, IV.out, HLO.out.2.2.2⟩
    case round =>
     obtain ⟨j, k', t', B', m', d', rfl, hj, hV, hR, hY, hI, hS⟩ := hrel
     clear V RS Y IV
     have hmm := HM.out
     have V := Lib.hid hV
     have RS := Lib.hid hR
     have Y := Lib.hid hY
     have IV := Lib.hid hI
     have HST := Lib.hid hS
     clear hV hR hY hI hS
     by_cases hjm : j < m
     · have t1 : decide ((j : Int) < (m : Int)) = true := decide_eq_true (by omega)
       have t1n : decide (j < m) = true := decide_eq_true hjm
       have hjI : (j : Int) < (m : Int) := by omega
       obtain ⟨bE, oE, hBE, _, hcE⟩ := (HI.out.1.below V.out.low).at_ (by omega)
       have c0 := hcE j hjm
       obtain ⟨bN, oN, hCN, hltN, hcN⟩ := HI.out.2.2.1.at_ (by omega)
       obtain ⟨A1, n1, c1, hN⟩ := hcN j hjm
       have N0 := Lib.hid (NmA.mk hltN hN)
       have HVN := Lib.hid (show validB (nmAt ns j).s (nmAt ns j).xs = true by have := HI.out.2.2.2.1; simp only [allB, decide_eq_true_eq] at this; exact this j (by rw [HL.out.2]; exact hjm))
       obtain ⟨z, hz⟩ : ∃ z, z = es.getD j 0 := ⟨_, rfl⟩
       rw [← hz] at c0
       have HZ := Lib.hid (And.intro hz (by have := HI.out.2.1 j (by rw [HL.out.1]; exact hjm); rw [← hz] at this; exact this))
       have HPS := Lib.hid (show prodI es ns (j + 1) = prodI es ns j * nmZ (nmAt ns j) ^ z.toNat by rw [hz]; rfl)
       have HD1 := Lib.hid (show (nmZ (nmAt ns j) ^ z.toNat).natAbs ≤ T by
        have := abs_le_dvd (pow_dvd_tVal (t := ⟨s, xs, es⟩) (ns := ns) (j := j) (by show j < es.length; rw [HL.out.1]; exact hjm)) HTN.out
        rw [← hz] at this
        exact Nat.le_trans this HI.out.2.2.2.2.2)
       have HD2 := Lib.hid (show (trZ ⟨s, xs, es⟩ * prodI es ns (j + 1)).natAbs ≤ T from Nat.le_trans (abs_le_dvd (dvd_tVal (t := ⟨s, xs, es⟩) (ns := ns) (j := j + 1) (by show j + 1 ≤ es.length; rw [HL.out.1]; exact hjm)) HTN.out) HI.out.2.2.2.2.2)
       subst hBE hCN
       clear hcE hcN hN hz hltN
       by_cases z0 : 0 < z
       · have t2 : decide (0 < z) = true := decide_eq_true z0
         obtain ⟨x, hx⟩ := Int.eq_ofNat_of_zero_le (show 0 ≤ z by omega)
         subst hx
         rw [show ((x : Int)).toNat = x from Int.toNat_natCast x] at HD1 HPS
         have HX63 := Lib.hid (show x < 9223372036854775808 by have := HZ.out.2.2; omega)
         obtain ⟨⟨sN, xN⟩, hnm⟩ : ∃ q, q = nmAt ns j := ⟨_, rfl⟩
         rw [← hnm] at N0 HVN HPS HD1
         clear hnm
         have HIN := Lib.hid (show ∀ W, Below w0.heap.size w0 W → Iv W (nmZ ⟨sN, xN⟩) sN A1 n1 c1 from fun W hb => rawIv (N0.out.is.rd.below hb) HVN.out N0.out.is.nc N0.out.is.cm)
         obtain ⟨zx, hzx⟩ : ∃ q, q = nmZ ⟨sN, xN⟩ ^ x := ⟨_, rfl⟩
         rw [HPS.out, ← hzx] at HD2
         rw [← hzx] at HD1 HPS
         have HPW := Lib.hid (fun W h1 h2 => cPower_c T b k' (nmZ ⟨sN, xN⟩) sN A1 n1 c1 x W h1 HST.out (fun _ => by rw [← hzx]; exact HD1.out) (fun _ => HIN.out W h2) HX63.out)
         rw [← hzx] at HPW
         clear hzx
         have HBG := Lib.hid (show g9 ≠ b ∧ g + 1 ≠ b by have h1 := HG.out; have h2 := HLT.out; have h3 := HG9.out.1; omega)
         have XE := Lib.hid (N0.out.next V.out.low)
         go_upto_region 12 with (fail)
         clear c0
         refine wp_region_tail (S := (fun w' => w'.cell? ⟨g9, 0, none⟩ = some (.bool t') ∧ w'.cell? ⟨g9, 1, none⟩ = some (.slice B' m' d') ∧ w'.cell? ⟨bN, oN + j * 2, none⟩ = some (.bool sN) ∧ w'.cell? ⟨bN, oN + j * 2 + 1, none⟩ = some (.slice A1 n1 c1))) 10 (by kernel_rfl) (by kernel_rfl) (by intro c a d v w h; cases d <;> exact h) (⟨cell_drq Y.out.r0, cell_drq Y.out.r1, cell_drq XE.out.is.c0, cell_drq XE.out.is.c1⟩) (fun QT hT hP hHeld => ?_)
         simp only [List.extract_toArray, List.extract_eq_take_drop, List.drop_zero, Nat.sub_zero, List.take_succ_cons, List.take_zero]
         have HT := Lib.hid hT
         clear hT
         replace V := Lib.hid (V.out.next (Below.refl wr.heap.size wr).drew)
         replace RS := Lib.hid (RS.out.next (Below.refl wr.heap.size wr).drew)
         replace Y := Lib.hid (Y.out.next (Below.refl wr.heap.size wr).drew)
         replace IV := Lib.hid (IV.out.next (Below.refl wr.heap.size wr).drew)
         replace XE := Lib.hid (XE.out.next (Below.refl wr.heap.size wr).drew)
         generalize wr.drew = D1 at V RS Y IV XE hHeld ⊢
         refine tkk 0 43 rfl rfl (by kernel_rfl) (hP · · _) (by rfl) (fun w h => by obtain ⟨h0, h1, h2, h3⟩ := h; go_simp; rfl) (by assumption) ?_
         simp only [set0, set1]
         refine tkk 1 44 rfl rfl (by kernel_rfl) (hP · · _) (by rfl) (fun w h => by obtain ⟨h0, h1, h2, h3⟩ := h; go_simp; rfl) (by assumption) ?_
         simp only [set0, set1]
         refine tkk 2 45 rfl rfl (by kernel_rfl) (hP · · _) (by rfl) (fun w h => by obtain ⟨h0, h1, h2, h3⟩ := h; go_simp; rfl) (by assumption) ?_
         simp only [set0, set1]
         refine tkk 3 46 rfl rfl (by kernel_rfl) (hP · · _) (by rfl) (fun w h => by obtain ⟨h0, h1, h2, h3⟩ := h; go_simp; rfl) (by assumption) ?_
         simp only [set0, set1]
         refine tkk 4 47 rfl rfl (by kernel_rfl) (hP · · _) (by rfl) (fun w h => by obtain ⟨h0, h1, h2, h3⟩ := h; go_simp; rfl) (by assumption) ?_
         simp only [set0, set1]
         refine tkk 5 48 rfl rfl (by kernel_rfl) (hP · · _) (by rfl) (fun w h => by obtain ⟨h0, h1, h2, h3⟩ := h; go_simp; rfl) (by assumption) ?_
         simp only [set0, set1]
         refine tkk 6 49 rfl rfl (by kernel_rfl) (hP · · _) (by rfl) (fun w h => by obtain ⟨h0, h1, h2, h3⟩ := h; go_simp; rfl) (by assumption) ?_
         simp only [set0, set1]
         refine tkk 7 50 rfl rfl (by kernel_rfl) (hP · · _) (by rfl) (fun w h => by obtain ⟨h0, h1, h2, h3⟩ := h; go_simp; rfl) (by assumption) ?_
         simp only [set0, set1]
         refine wpAnyH_ready (rs := [8]) (by kernel_rfl) (by simp) ?_
         refine AllReadyH.cons rfl (fun K hK => ?_) AllReadyH.nil
         go_simp
         refine (HPW.out D1 V.out.cc V.out.low).mono ?_
         rintro e v2 ⟨t2, B2, m2, d2, k2, rfl, s2, cc2, h2, h3⟩
         have YN := Lib.hid (Y.out.stp HBG.out.1 s2)
         have RN := Lib.hid (RS.out.stp HBG.out.2 s2)
         have IVN := Lib.hid (IV.out.stp V.out.cc s2)
         have VN := Lib.hid (V.out.put HLO.out.2.1 s2 cc2)
         have IP := Lib.hid (show Ivk v2 k' k2 zx t2 B2 m2 d2 from ⟨h2⟩)
         have ST2 := Lib.hid h3
         clear Y RS IV V XE hHeld s2 cc2 h2 h3
         have Y := YN
         have RS := RN
         have IV := IVN
         have V := VN
         clear YN RN IVN VN
         have XE := Lib.hid (N0.out.next V.out.low)
         refine hK.out _ _ (⟨Y.out.r0, Y.out.r1, XE.out.is.c0, XE.out.is.c1⟩) (fun hHeld => ?_)
         clear hK K
         refine wpAnyH_ready (rs := [9]) (by kernel_rfl) (by simp) ?_
         refine AllReadyH.cons rfl (fun K hK => ?_) AllReadyH.nil
         go_simp
         refine (cMul_c T b k2 (trZ ⟨s, xs, es⟩ * prodI es ns j) zx t' t2 B' B2 m' d' m2 d2 v2 V.out.cc ST2.out (fun _ => by rw [Int.mul_assoc]; exact HD2.out) (fun h0 => ⟨(IV.out.h (IP.out.h h0).1).2, (IP.out.h h0).2⟩)).mono ?_
         rintro e v3 ⟨t3, B3, m3, d3, k3, rfl, s3, cc3, h4, h5⟩
         have YN := Lib.hid (Y.out.stp HBG.out.1 s3)
         have RN := Lib.hid (RS.out.stp HBG.out.2 s3)
         have VN := Lib.hid (V.out.put HLO.out.2.1 s3 cc3)
         have IQ := Lib.hid (show Ivk v3 k k3 (trZ ⟨s, xs, es⟩ * prodI es ns j * zx) t3 B3 m3 d3 from ⟨fun h0 => ⟨(IV.out.h (IP.out.h (h4 h0).1).1).1, (h4 h0).2⟩⟩)
         have ST3 := Lib.hid h5
         clear Y RS IV V XE IP hHeld s3 cc3 h4 h5
         have Y := YN
         have RS := RN
         have V := VN
         clear YN RN VN
         have XE := Lib.hid (N0.out.next V.out.low)
         refine hK.out _ _ (⟨Y.out.r0, Y.out.r1, XE.out.is.c0, XE.out.is.c1⟩) (fun hHeld => ?_)
         clear hK K
         clear hHeld
         refine wpAnyH_done (by kernel_rfl) ?_ _
         refine HT.out _ _ ?_
         clear HT hP QT
         have r0 := Y.out.r0
         have r1 := Y.out.r1
         have f0 := Y.out.f0
         have f1 := Y.out.f1
         refine wpList_step fun K hK => ?_
         go_simp
         refine hK _ _ ?_
         clear hK K
         refine wpList_nil ?_
         have VN := Lib.hid (V.out.two (g := g9) (by have h1 := HG9.out.1; have h2 := HLO.out.1.size; omega) HG9.out.1 HBG.out.1 (.bool t3) (.slice B3 m3 d3))
         have YN := Lib.hid (Y.out.put t3 B3 m3 d3)
         have RN := Lib.hid (RS.out.oth (g' := g9) HG9.out.2 (.bool t3) (.slice B3 m3 d3))
         have IN := Lib.hid (show Ivk _ k k3 (trZ ⟨s, xs, es⟩ * prodI es ns (j + 1)) t3 B3 m3 d3 from ⟨fun h0 => ⟨(IQ.out.h h0).1, by rw [HPS.out, ← Int.mul_assoc]; exact (IQ.out.h h0).2.two r0 r1 (.bool t3) (.slice B3 m3 d3)⟩⟩)
         clear r0 r1 f0 f1 V Y RS IQ XE
         go_wp2
         go_roundw
         case measure => simp [intOf]; omega
         case rel => exact ⟨j + 1, k3, t3, B3, m3, d3, by go_num, by omega, VN.out, RN.out, YN.out, IN.out, ST3.out⟩
       · have t2 : decide (0 < z) = false := decide_eq_false z0
         have IVN := Lib.hid (show Ivk wr k k' (trZ ⟨s, xs, es⟩ * prodI es ns (j + 1)) t' B' m' d' by
          rw [HPS.out, show z.toNat = 0 by omega, Int.pow_zero, Int.mul_one]; exact IV.out)
         go_wp2
         go_roundw
         case measure => simp [intOf]; omega
         case rel => exact ⟨j + 1, k', t', B', m', d', by go_num, by omega, V.out, RS.out, Y.out, IVN.out, HST.out⟩
     · have t1 : decide ((j : Int) < (m : Int)) = false := decide_eq_false (by omega)
       have t1n : decide (j < m) = false := decide_eq_false hjm
       obtain rfl : j = es.length := by rw [HL.out.1]; omega
       have r0 := RS.out.r0
       have r1 := RS.out.r1
       have f0 := RS.out.f0
       have f1 := RS.out.f1
       have y0 := Y.out.r0
       have y1 := Y.out.r1
       go_wp2
       have Q := RS.out.put t' B' m' d'
       have q0 := Q.r0
       have q1 := Q.r1
       refine bodyPost_ret (v := .agg #[.bool t', .slice B' m' d']) (by simp [results, Tryz.results113, go_sem, q0, q1]) rfl ?_
       have hne : g + 1 ≠ b := by have h1 := HG.out; have h2 := HLT.out; omega
       have VN := V.out.two (g := g + 1) (by have h1 := HG.out; have h2 := HLO.out.1.size; omega) (by have h1 := HG.out; omega) hne (.bool t') (.slice B' m' d')
       exact ⟨t', B', m', d', k', rfl, VN.stp, VN.cc, fun h0 => ⟨(IV.out.h h0).1, (IV.out.h h0).2.two r0 r1 _ _⟩, HST.out⟩
end Go.Proofs.YteabokkofoomkaaGreat
set_option maxRecDepth 100000
namespace Go.Proofs.YteabokkofoomkaaGreat
open Go.RowKit Go.Shelf
def KeepPostZ (b : Nat) (k : Int) (t : Bool) (B : Option Addr) (m d : Nat) (e0 : Int) (w : World) (e : Ending) (w' : World) : Prop :=
 ∃ t' B' m' d' k', e = .returned (.agg #[.bool t', .slice B' m' d']) ∧ Stp b w w' ∧ Cc w' b k' ∧ (k' = 0 → k = 0 ∧ e0 = 0 ∧ t' = t ∧ B' = B ∧ m' = m ∧ d' = d) ∧ (k ≠ 0 → k' = k) ∧ (k = 0 → k' = e0) ∧ (k' ≠ 0 → t' = false ∧ B' = none ∧ m' = 0 ∧ d' = 0)
set_option maxHeartbeats 400000 in
theorem KeepZ_zero (b : Nat) (t : Bool) (B : Option Addr) (m d : Nat) (w : World) (hc : Cc w b 0) :
 Calls Tryz.prog 75 #[.pointer (some ⟨b, 0, none⟩), .agg #[.bool t, .slice B m d], .int .i64 0] w (KeepPostZ b 0 t B m d 0 w) := by
 have HC := Lib.hid hc
 have c0 := hc.c0
 have f0 := hc.f0
 have hlt := hc.lt
 clear hc
 go_enter Tryz.func75, Tryz.ntmps75
 go_wp2
 refine bodyPost_ret (v := .agg #[.bool t, .slice B m d]) (by simp [results, Tryz.results75, go_sem]) rfl ?_
 have h1 := (HC.out.put 0)
 have s1 := Stp.put w b (.int .i64 0)
 exact ⟨t, B, m, d, 0, rfl, (s1.trans (Stp.of_below h1.lt (below_alloc _ _))).trans (Stp.of_below (h1.alloc _).lt (below_alloc _ _)), (h1.alloc _).alloc _, fun _ => ⟨rfl, rfl, rfl, rfl, rfl, rfl⟩, fun h => absurd rfl h, fun _ => rfl, fun h => absurd rfl h⟩
set_option maxHeartbeats 400000 in
theorem KeepZ_four (b : Nat) (t : Bool) (B : Option Addr) (m d : Nat) (w : World) (hc : Cc w b 0) :
 Calls Tryz.prog 75 #[.pointer (some ⟨b, 0, none⟩), .agg #[.bool t, .slice B m d], .int .i64 4] w (KeepPostZ b 0 t B m d 4 w) := by
 have HC := Lib.hid hc
 have c0 := hc.c0
 have f0 := hc.f0
 have hlt := hc.lt
 clear hc
 go_enter Tryz.func75, Tryz.ntmps75
 go_wp2
 refine bodyPost_ret (v := .agg #[.bool false, .slice none 0 0]) (by simp [results, Tryz.results75, go_sem]) rfl ?_
 have h1 := (HC.out.put 4)
 have s1 := Stp.put w b (.int .i64 4)
 exact ⟨false, none, 0, 0, 4, rfl, (s1.trans (Stp.of_below h1.lt (below_alloc _ _))).trans (Stp.of_below (h1.alloc _).lt (below_alloc _ _)), (h1.alloc _).alloc _, fun h => by omega, fun h => absurd rfl h, fun _ => rfl, fun _ => ⟨rfl, rfl, rfl, rfl⟩⟩
def TwoZ (b : Nat) (k : Int) (z : Int) (w : World) (e : Ending) (w' : World) : Prop :=
 ∃ t B m d k', e = .returned (.agg #[.bool t, .slice B m d]) ∧ Stp b w w' ∧ Cc w' b k' ∧ (k' = 0 → k = 0 ∧ Is w' z t B m d) ∧ (k ≠ 0 → k' = k) ∧ (k = 0 → (words z.natAbs).length ≤ 4096 → k' = 0) ∧ (k = 0 → ¬ (words z.natAbs).length ≤ 4096 → k' = 4) ∧ (k' ≠ 0 → t = false ∧ B = none ∧ m = 0 ∧ d = 0)
set_option maxHeartbeats 400000 in
theorem twoZ_bad (b f : Nat) (k : Int) (z : Int) (t t' : Bool) (A A' : Option Addr) (n c n' c' : Nat) (w : World) (hc : Cc w b k) (hk : k ≠ 0) :
 Calls Tryz.prog 108 #[.pointer (some ⟨b, 0, none⟩), .func (.func f) #[] #[], .agg #[.bool t, .slice A n c], .agg #[.bool t', .slice A' n' c']] w (TwoZ b k z w) := by
 have HC := Lib.hid hc
 have c0 := hc.c0
 have f0 := hc.f0
 have hlt := hc.lt
 have q0 : (((w.alloc (.cells #[.bool t, .slice A n c] 58)).alloc (.cells #[.bool t', .slice A' n' c'] 58)).alloc (.cells #[.bool false, .slice none 0 0] 58)).cell? ⟨b, 0, none⟩ = some (.int .i64 k) := (((hc.alloc _).alloc _).alloc _).c0
 have t0 : (k != 0) = true := by simp [hk]
 have t1 : (k == 0) = false := by simp [hk]
 have HK := Lib.hid hk
 clear hc hk
 go_enter Tryz.func108, Tryz.ntmps108
 go_wp2
 refine bodyPost_ret (v := .agg #[.bool false, .slice none 0 0]) (by simp [results, Tryz.results108, go_sem]) rfl ?_
 have h1 := HC.out
 exact ⟨false, none, 0, 0, k, rfl, ((Stp.of_below h1.lt (below_alloc _ _)).trans (Stp.of_below (h1.alloc _).lt (below_alloc _ _))).trans (Stp.of_below ((h1.alloc _).alloc _).lt (below_alloc _ _)), ((h1.alloc _).alloc _).alloc _, fun h => absurd h HK.out, fun _ => rfl, fun h => absurd h HK.out, fun h => absurd h HK.out, fun _ => ⟨rfl, rfl, rfl, rfl⟩⟩
set_option maxHeartbeats 400000 in
theorem twoZ_ok (b f : Nat) (z : Int) (t t' : Bool) (A A' : Option Addr) (n c n' c' : Nat) (w : World) (hc : Cc w b 0)
 (heg : ∀ args w, (callFunc f args).run Tryz.prog w = .ok (.enter f args) w)
 (hf : ∀ w1, Below w.heap.size w w1 → Calls Tryz.prog f #[.agg #[.bool t, .slice A n c], .agg #[.bool t', .slice A' n' c']] w1 (Num w1 z)) :
 Calls Tryz.prog 108 #[.pointer (some ⟨b, 0, none⟩), .func (.func f) #[] #[], .agg #[.bool t, .slice A n c], .agg #[.bool t', .slice A' n' c']] w (TwoZ b 0 z w) := by
 have HC := Lib.hid hc
 have HF := Lib.hid hf
 have q0 : (((w.alloc (.cells #[.bool t, .slice A n c] 58)).alloc (.cells #[.bool t', .slice A' n' c'] 58)).alloc (.cells #[.bool false, .slice none 0 0] 58)).cell? ⟨b, 0, none⟩ = some (.int .i64 0) := (((hc.alloc _).alloc _).alloc _).c0
 have hlt := hc.lt
 clear hc hf
 go_enter Tryz.func108, Tryz.ntmps108
 go_wp2_with fail
 have E := Env.start w t t' A A' n c n' c'
 have C3 := Lib.hid (((HC.out.alloc (.cells #[.bool t, .slice A n c] 58)).alloc (.cells #[.bool t', .slice A' n' c'] 58)).alloc (.cells #[.bool false, .slice none 0 0] 58))
 refine (HF.out _ E.below).mono ?_
 rintro e w1 ⟨t1, B, m, d, k1, rfl, hn, hb⟩
 have E1 := Lib.hid (E.next hb)
 have C1 := Lib.hid (C3.out.below hb)
 clear E hb q0 heg
 by_cases hz : (words z.natAbs).length ≤ 4096
 · obtain ⟨rfl, hi⟩ := hn.is_ hz
   have HI := Lib.hid hi
   have HZ := Lib.hid hz
   clear hn hi hz
   go_wp2_with fail
   refine (KeepZ_zero b t1 B m d w1 C1.out).mono ?_
   rintro e w2 ⟨t2, B2, m2, d2, k2, rfl, s2, c2, h2, -, h4, h5⟩
   have hk2 := h4 rfl
   subst hk2
   obtain ⟨-, -, rfl, rfl, rfl, rfl⟩ := h2 rfl
   have hsz := E1.out.size
   have hne : w.heap.size + 1 + 1 ≠ b := by omega
   have r0 := (s2.cell (p := ⟨w.heap.size + 1 + 1, 0, none⟩) (by simp; omega) hne).trans E1.out.r0
   have r1 := (s2.cell (p := ⟨w.heap.size + 1 + 1, 1, none⟩) (by simp; omega) hne).trans E1.out.r1
   have f0 := (s2.frozen (g := w.heap.size + 1 + 1) (o := 0) (by omega) hne).trans E1.out.f0
   have f1 := (s2.frozen (g := w.heap.size + 1 + 1) (o := 1) (by omega) hne).trans E1.out.f1
   have S2 := Lib.hid s2
   have C2 := Lib.hid c2
   have H5 := Lib.hid h5
   clear h2 h4 h5 s2 c2
   go_wp2
   refine bodyPost_ret (v := .agg #[.bool t2, .slice B2 m2 d2]) (by simp [results, Tryz.results108, go_sem, r0, r1]) rfl ?_
   exact ⟨t2, B2, m2, d2, 0, rfl, ((Stp.of_below HC.out.lt E1.out.below).trans S2.out).two (by omega) hne _ _, C2.out.two hne _ _, fun _ => ⟨rfl, (HI.out.stp C1.out S2.out).store r0 r1 _ _⟩, fun h => absurd rfl h, fun _ _ => rfl, fun _ h => absurd HZ.out h, fun h => absurd rfl h⟩
 · obtain ⟨rfl, rfl, rfl, rfl, rfl⟩ := hn.2 hz
   have HZ := Lib.hid hz
   clear hn hz
   go_wp2_with fail
   refine (KeepZ_four b false none 0 0 w1 C1.out).mono ?_
   rintro e w2 ⟨t2, B2, m2, d2, k2, rfl, s2, c2, h2, -, h4, h5⟩
   have hk2 := h4 rfl
   subst hk2
   have hsz := E1.out.size
   have hne : w.heap.size + 1 + 1 ≠ b := by omega
   have r0 := (s2.cell (p := ⟨w.heap.size + 1 + 1, 0, none⟩) (by simp; omega) hne).trans E1.out.r0
   have r1 := (s2.cell (p := ⟨w.heap.size + 1 + 1, 1, none⟩) (by simp; omega) hne).trans E1.out.r1
   have f0 := (s2.frozen (g := w.heap.size + 1 + 1) (o := 0) (by omega) hne).trans E1.out.f0
   have f1 := (s2.frozen (g := w.heap.size + 1 + 1) (o := 1) (by omega) hne).trans E1.out.f1
   have S2 := Lib.hid s2
   have C2 := Lib.hid c2
   have H5 := Lib.hid h5
   clear h2 h4 h5 s2 c2
   go_wp2
   refine bodyPost_ret (v := .agg #[.bool t2, .slice B2 m2 d2]) (by simp [results, Tryz.results108, go_sem, r0, r1]) rfl ?_
   exact ⟨t2, B2, m2, d2, 4, rfl, ((Stp.of_below HC.out.lt E1.out.below).trans S2.out).two (by omega) hne _ _, C2.out.two hne _ _, fun h => by omega, fun h => absurd rfl h, fun _ h => absurd h HZ.out, fun _ _ => rfl, fun h => H5.out h⟩
def WvZ (T : Nat) (b : Nat) (k : Int) (z : Int) (w : World) (e : Ending) (w' : World) : Prop :=
 ∃ t B m d k', e = .returned (.agg #[.bool t, .slice B m d]) ∧ Stp b w w' ∧ Cc w' b k' ∧ (k' = 0 → k = 0 ∧ Iv w' z t B m d) ∧ St T k' ∧ (k' ≠ 0 → t = false ∧ B = none ∧ m = 0 ∧ d = 0)
theorem TwoZ.wv {T b : Nat} {k z : Int} {w w' : World} {e : Ending} (h : TwoZ b k z w e w') (hk : St T k) (hz : k = 0 → z.natAbs ≤ T) : WvZ T b k z w e w' := by
 obtain ⟨t, B, m, d, k', he, hs, hc, h1, h2, h3, h4, h5⟩ := h
 refine ⟨t, B, m, d, k', he, hs, hc, fun h0 => ⟨(h1 h0).1, (h1 h0).2, ?_⟩, ?_, h5⟩
 · by_cases hl : (words z.natAbs).length ≤ 4096
   · exact words_len_le.1 hl
   · have := h4 (h1 h0).1 hl; omega
 · rcases hk with hk | hk
   · by_cases hl : (words z.natAbs).length ≤ 4096
     · exact .inl (h3 hk hl)
     · refine .inr ⟨h4 hk hl, Nat.le_trans (words_len_lt.1 (by omega)) (hz hk)⟩
   · rw [h2 (by omega)]; exact .inr hk
theorem twoZ_c (b f : Nat) (k z : Int) (t t' : Bool) (A A' : Option Addr) (n c n' c' : Nat) (w : World) (hc : Cc w b k)
 (heg : ∀ args w, (callFunc f args).run Tryz.prog w = .ok (.enter f args) w)
 (hf : k = 0 → ∀ w1, Below w.heap.size w w1 → Calls Tryz.prog f #[.agg #[.bool t, .slice A n c], .agg #[.bool t', .slice A' n' c']] w1 (Num w1 z)) :
 Calls Tryz.prog 108 #[.pointer (some ⟨b, 0, none⟩), .func (.func f) #[] #[], .agg #[.bool t, .slice A n c], .agg #[.bool t', .slice A' n' c']] w (TwoZ b k z w) := by
 by_cases hk : k = 0
 · subst hk; exact twoZ_ok b f z t t' A A' n c n' c' w hc heg (hf rfl)
 · exact twoZ_bad b f k z t t' A A' n c n' c' w hc hk
set_option maxHeartbeats 400000 in
theorem cAddZ_c (T b : Nat) (k z z' : Int) (t t' : Bool) (A A' : Option Addr) (n c n' c' : Nat) (w : World) (hc : Cc w b k) (hk : St T k) (hz : k = 0 → (z + z').natAbs ≤ T) (hx : k = 0 → Iv w z t A n c ∧ Iv w z' t' A' n' c') :
 Calls Tryz.prog 66 #[.pointer (some ⟨b, 0, none⟩), .agg #[.bool t, .slice A n c], .agg #[.bool t', .slice A' n' c']] w (WvZ T b k (z + z') w) := by
 have E := Env.start w t t' A A' n c n' c'
 have HC := Lib.hid (((hc.alloc (.cells #[.bool t, .slice A n c] 58)).alloc (.cells #[.bool t', .slice A' n' c'] 58)).alloc (.cells #[.bool false, .slice none 0 0] 58))
 have HT := Lib.hid (twoZ_c b 109 k (z + z') t t' A A' n c n' c' _ HC.out entersAdd (fun h0 w1 hb => by
  have hb := E.below.trans (hb.mono E.below.size)
  exact Add_is (k := 4096) (((hx h0).1.is).below hb) (((hx h0).2.is).below hb) (hx h0).1.sz (hx h0).2.sz (Nat.le_refl _)))
 have HK := Lib.hid (And.intro hk (And.intro hz hc.lt))
 clear hc hk hz hx
 have HE := Lib.hid E
 clear E
 go_enter Tryz.func66, Tryz.ntmps66
 go_wp2_with fail
 refine HT.out.mono ?_
 rintro e w2 h
 obtain ⟨t2, B2, m2, d2, k2, rfl, s2, c2, h2, h3, h4⟩ := h.wv HK.out.1 HK.out.2.1
 have hsz := HE.out.size
 have hlt := HK.out.2.2
 have hne : w.heap.size + 1 + 1 ≠ b := by omega
 have r0 := (s2.cell (p := ⟨w.heap.size + 1 + 1, 0, none⟩) (by simp) hne).trans HE.out.r0
 have r1 := (s2.cell (p := ⟨w.heap.size + 1 + 1, 1, none⟩) (by simp) hne).trans HE.out.r1
 have f0 := (s2.frozen (g := w.heap.size + 1 + 1) (o := 0) (by simp) hne).trans HE.out.f0
 have f1 := (s2.frozen (g := w.heap.size + 1 + 1) (o := 1) (by simp) hne).trans HE.out.f1
 have S2 := Lib.hid s2
 have C2 := Lib.hid c2
 have H2 := Lib.hid h2
 have H3 := Lib.hid h3
 have H4 := Lib.hid h4
 clear h2 h3 h4 s2 c2 h
 go_wp2
 refine bodyPost_ret (v := .agg #[.bool t2, .slice B2 m2 d2]) (by simp [results, Tryz.results66, go_sem, r0, r1]) rfl ?_
 exact ⟨t2, B2, m2, d2, k2, rfl, ((Stp.of_below HK.out.2.2 HE.out.below).trans S2.out).two (by omega) hne _ _, C2.out.two hne _ _, fun h => ⟨(H2.out h).1, (H2.out h).2.two r0 r1 _ _⟩, H3.out, H4.out⟩
end Go.Proofs.YteabokkofoomkaaGreat

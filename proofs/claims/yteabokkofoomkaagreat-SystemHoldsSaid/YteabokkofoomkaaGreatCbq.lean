import Derived.Test.YteabokkofoomkaaGreatCak
import Derived.Test.YteabokkofoomkaaGreatCbp
import Derived.Test.YteabokkofoomkaaGreatCba
import Derived.Test.YteabokkofoomkaaGreatCbm
set_option maxRecDepth 100000
namespace Go.Proofs.YteabokkofoomkaaGreat
open Go.RowKit Go.Shelf Go.Deep
theorem refUnder_v {w : World} {a b : Int} {A A' : Option Addr} {n c n' c' : Nat} (h : Iv w a false A n c) (h' : Iv w b false A' n' c') :
 Calls Tryz.prog 46 #[.agg #[.bool false, .slice A n c], .agg #[.bool false, .slice A' n' c']] w (IsB (linkZ 3 a b 0) w) := by
 have q1 := of_decide_eq_false h.is.1.symm
 have q2 := of_decide_eq_false h'.is.1.symm
 have e : linkZ 3 a b 0 = decide (val (words a.natAbs) &&& val (words b.natAbs) = val (words a.natAbs)) := by
  rw [val_words, val_words]
  show decide (0 ≤ a ∧ 0 ≤ b ∧ a.natAbs &&& b.natAbs = a.natAbs) = _
  by_cases q : a.natAbs &&& b.natAbs = a.natAbs
  · rw [decide_eq_true q, decide_eq_true ⟨by omega, by omega, q⟩]
  · rw [decide_eq_false q, decide_eq_false (fun z => q z.2.2)]
 refine (refUnder_c false false A A' n c n' c' _ _ w h.is.2.2.1 h'.is.2.2.1 (by have := h.is.len h.sz; omega) (by have := h'.is.len h'.sz; omega)).mono ?_
 rintro e1 w' ⟨rfl, hb⟩
 rw [← e]
 exact ⟨rfl, hb⟩
theorem link3_a {a b c : Int} (h : a < 0) : linkZ 3 a b c = false := decide_eq_false fun q => by have := q.1; omega
theorem link3_b {a b c : Int} (h : b < 0) : linkZ 3 a b c = false := decide_eq_false fun q => by have := q.2.1; omega
def RHoldsP (ls : List Lnk) (ns : List Nmr) (w : World) (e : Ending) (w' : World) : Prop :=
 e = .returned (.tuple #[.bool (holdsB ls ns), .int .i64 0]) ∧ Below w.heap.size w w'
theorem RHoldsP.mk' {ls : List Lnk} {ns : List Nmr} {w w' : World} {b : Bool} (h : holdsB ls ns = b) (hb : Below w.heap.size w w') : RHoldsP ls ns w (.returned (.tuple #[.bool b, .int .i64 0])) w' := by
 subst h
 exact ⟨rfl, hb⟩
set_option maxHeartbeats 16000000 in
theorem refHolds_c (V : Int) (A : Option Addr) (n c : Nat) (ls : List Lnk) (X : Option Addr) (nx cx : Nat) (ns : List Nmr) (w : World) (h : RdL w A n ls) (h' : RdN w X nx ns)
 (hv : validS V ls = true) (hu : allB ns = true) (hm : (nx : Int) = V) (hT : ∀ i, i < ls.length → okPs (lnkAt ls i).ps (ownOf (lnkAt ls i).vs ns) = true) :
 Calls Tryz.prog 17 #[aggS V A n c, .slice X nx cx] w (RHoldsP ls ns w) := by
 have k0 := bel_alloc w (boxS V A n c)
 have P := Lib.hid k0
 have Y := Lib.hid (BxY.new w V A n c)
 have HI := Lib.hid (And.intro h h')
 have HL := Lib.hid (And.intro h.len h'.len)
 have HV := Lib.hid (And.intro hv (And.intro hu (And.intro hm hT)))
 have HBD := Lib.hid (vs_bounds hv)
 have hnn : n ≤ 20000 := by have h1 := HBD.out.2.2; have h2 := HL.out.1; omega
 clear k0 h h' hv hu hm hT
 go_enter Tryz.func17, Tryz.ntmps17
 go_upto_region 1 with (fail)
 generalize w.alloc (boxS V A n c) = W0 at P Y ⊢
 obtain ⟨g, hg⟩ : ∃ g, g = w.heap.size := ⟨_, rfl⟩
 rw [← hg] at Y ⊢
 clear hg
 go_wp2
 go_loopw [6] (fun v wr => ∃ j : Nat, v = .int .i64 (j : Int) ∧ j ≤ n ∧ Below w.heap.size w wr ∧ BxY wr g V A n c ∧ ∀ i, i < j → linkB (lnkAt ls i) ns = true) (fun v _ => n - (intOf v).toNat)
 case atStart => exact ⟨0, rfl, Nat.zero_le _, P.out, Y.out, fun i hi => absurd hi (by omega)⟩
 case round =>
  obtain ⟨j, rfl, hj, hp, hy, hall⟩ := hrel
  clear P Y
  have P := Lib.hid hp
  have Y := Lib.hid hy
  have HA := Lib.hid hall
  clear hp hy hall
  have a1 := Y.out.c1
  by_cases hjn : j < n
  · have t1 : decide ((j : Int) < (n : Int)) = true := decide_eq_true (by omega)
    have t1n : decide (j < n) = true := decide_eq_true hjn
    have hjI : (j : Int) < (n : Int) := by omega
    obtain ⟨bL, oL, rfl, hltL, hcL⟩ := HI.out.1.at_ (by omega)
    obtain ⟨B1, m1, d1, C1, p1, q1, hK⟩ := hcL j hjn
    obtain ⟨l, hl⟩ : ∃ x, x = lnkAt ls j := ⟨_, rfl⟩
    rw [← hl] at hK
    have HLK := Lib.hid hl
    have hK2 := hK.below hltL P.out
    have c0 := hK2.c0
    have c1 := hK2.c1
    have c2 := hK2.c2
    have HK := Lib.hid (And.intro hltL hK)
    have hlk := vs_at HV.out.1 (k := j) (by have := HL.out.1; omega)
    rw [← hl] at hlk
    have hT1 := HV.out.2.2.2 j (by have := HL.out.1; omega)
    rw [← hl] at hT1
    obtain ⟨kind, vs, ps⟩ := l
    dsimp only at c0 hT1
    have HKR := Lib.hid (show RdI wr B1 m1 vs ∧ RdP wr C1 p1 ps from ⟨hK2.ri, hK2.rp⟩)
    have HVL := Lib.hid hlk
    have HLE := Lib.hid (vl_lens hlk)
    have HOK := Lib.hid hT1
    have HPL := Lib.hid (show p1 = ps.length ∧ p1 ≤ 3 by
     have h1 := HLE.out.2.2.1
     have h2 := HKR.out.2.len
     simp only [polysOf] at h1
     split at h1
     · omega
     · split at h1 <;> omega)
    clear hl hK hK2 hcL hlk hT1 hltL
    go_wp2_with fail
    refine (refValues_c wr kind B1 m1 d1 vs C1 p1 q1 ps X nx cx ns V HKR.out.1 HKR.out.2 (HI.out.2.below P.out) HVL.out HV.out.2.2.1 HV.out.2.1 (by have := HPL.out.2; omega)).mono ?_
    rintro e W1 hR
    obtain ⟨-, A5, c5, rfl, hr, hb⟩ := hR.resolve_right (fun q => by have q1 := q.1; rw [HOK.out] at q1; cases q1)
    have RS := Lib.hid hr
    have P1 := Lib.hid (P.out.trans (hb.mono P.out.size))
    have Y1 := Lib.hid (Y.out.next hb)
    clear c0 c1 c2 a1 P Y HKR hr hb hR
    have hK2 := HK.out.2.below HK.out.1 P1.out
    have c0 := hK2.c0
    clear hK2
    dsimp only at c0
    have a1 := Y1.out.c1
    obtain ⟨zs, hzs⟩ : ∃ x, x = valsZ ps (ownOf vs ns) := ⟨_, rfl⟩
    have HZL := Lib.hid (show zs.length = ps.length by rw [hzs]; exact valsZ_len _ _)
    have HSZ := Lib.hid (show ∀ i, i < zs.length → Sz (zs.getD i 0) 4096 by
     rw [hzs]
     intro i hi
     rw [valsZ_len] at hi
     rw [valsZ_at hi]
     exact Nat.lt_of_le_of_lt (sumV_le _ _ _) (of_decide_eq_true HOK.out i hi))
    have HLB := Lib.hid (show linkB (lnkAt ls j) ns = linkZ kind (zs.getD 0 0) (zs.getD 1 0) (zs.getD 2 0) by rw [← HLK.out, hzs]; rfl)
    have hrs := RS.out
    rw [← hzs] at hrs
    clear hzs RS
    have RS := Lib.hid hrs
    clear hrs
    obtain ⟨N3, hN3⟩ : ∃ x, x = ps.length := ⟨_, rfl⟩
    rw [← hN3] at RS HZL HPL ⊢
    have HN3 := Lib.hid hN3
    clear hN3
    rcases (show kind = 0 ∨ kind = 1 ∨ kind = 2 ∨ kind = 3 by have := HLE.out.1; have := HLE.out.2.1; omega) with rfl | rfl | rfl | rfl
    · obtain rfl : N3 = 1 := by have h := HLE.out.2.2.1; have h3 := HN3.out; have e : polysOf 0 = 1 := (by decide); omega
      obtain ⟨bV, oV, rfl, hE⟩ := zs_at RS.out HSZ.out (by omega)
      obtain ⟨ta, Aa, na, ca, ha⟩ := hE 0 (by omega)
      generalize zs.getD 0 0 = za at HLB ha
      generalize zs.getD 1 0 = zb at HLB 
      generalize zs.getD 2 0 = zc at HLB 
      have EA := Lib.hid (show NE W1 bV (oV) za ta Aa na ca from ha)
      clear hE ha HSZ HZL RS
      have x0 := EA.out.c0
      have x1 := EA.out.c1
      go_wp2_with fail
      refine (Zero_v EA.out.iv.is).mono ?_
      rintro e W2 ⟨rfl, hb⟩
      replace P1 := Lib.hid (P1.out.trans (hb.mono P1.out.size))
      replace Y1 := Lib.hid (Y1.out.next hb)
      clear hb x0 x1 c0 EA
      obtain ⟨x, hx⟩ : ∃ x, x = decide (za = 0) := ⟨_, rfl⟩
      rw [← hx]
      have HX := Lib.hid (show linkZ 0 za zb zc = x from hx.symm)
      clear hx
      have HX2 := Lib.hid (HLB.out.trans HX.out)
      clear a1
      cases x with
      | false =>
        have HF := Lib.hid (show holdsB ls ns = false from decide_eq_false fun q => by
         have := q j (by have := HL.out.1; omega)
         rw [HX2.out] at this
         cases this)
        go_wp2
        refine bodyPost_ret (v := .tuple #[.bool false, .int .i64 0]) (by simp [results, Tryz.results17, go_sem]) rfl ?_
        exact RHoldsP.mk' HF.out P1.out
      | true =>
        have HA2 := Lib.hid (show ∀ i, i < j + 1 → linkB (lnkAt ls i) ns = true from fun i hi => by
         by_cases e : i = j
         · rw [e]; exact HX2.out
         · exact HA.out i (by omega))
        go_wp2
        go_roundw
        case measure => simp [intOf]; omega
        case rel => exact ⟨j + 1, by go_num, by omega, P1.out, Y1.out, HA2.out⟩
    · obtain rfl : N3 = 3 := by have h := HLE.out.2.2.1; have h3 := HN3.out; have e : polysOf 1 = 3 := (by decide); omega
      obtain ⟨bV, oV, rfl, hE⟩ := zs_at RS.out HSZ.out (by omega)
      obtain ⟨ta, Aa, na, ca, ha⟩ := hE 0 (by omega)
      obtain ⟨tb, Ab, nb, cb, hb⟩ := hE 1 (by omega)
      obtain ⟨tc, Ac, nc, cc, hc⟩ := hE 2 (by omega)
      generalize zs.getD 0 0 = za at HLB ha
      generalize zs.getD 1 0 = zb at HLB hb
      generalize zs.getD 2 0 = zc at HLB hc
      have EA := Lib.hid (show NE W1 bV (oV) za ta Aa na ca from ha)
      have EB := Lib.hid (show NE W1 bV (oV + 2) zb tb Ab nb cb from hb)
      have EC := Lib.hid (show NE W1 bV (oV + 4) zc tc Ac nc cc from hc)
      clear hE ha hb hc HSZ HZL RS
      go_upto_region 12 with (fail)
      clear c0
      refine wp_region_held_drew (S := (fun w' => w'.cell? ⟨bV, oV, none⟩ = some (.bool ta) ∧ w'.cell? ⟨bV, (oV + 1), none⟩ = some (.slice Aa na ca) ∧ w'.cell? ⟨bV, (oV + 2), none⟩ = some (.bool tb) ∧ w'.cell? ⟨bV, (oV + 3), none⟩ = some (.slice Ab nb cb) ∧ w'.cell? ⟨bV, (oV + 4), none⟩ = some (.bool tc) ∧ w'.cell? ⟨bV, (oV + 5), none⟩ = some (.slice Ac nc cc))) (by kernel_rfl) (⟨cell_drq EA.out.c0, cell_drq EA.out.c1, cell_drq EB.out.c0, cell_drq EB.out.c1, cell_drq EC.out.c0, cell_drq EC.out.c1⟩) (fun hHeld => ?_)
      replace EA := Lib.hid (EA.out.next (Below.refl W1.heap.size W1).drew)
      replace EB := Lib.hid (EB.out.next (Below.refl W1.heap.size W1).drew)
      replace EC := Lib.hid (EC.out.next (Below.refl W1.heap.size W1).drew)
      replace Y1 := Lib.hid (Y1.out.next (Below.refl W1.heap.size W1).drew)
      replace P1 := Lib.hid (P1.out.trans ((Below.refl W1.heap.size W1).drew.mono P1.out.size))
      generalize W1.drew = D1 at EA EB EC Y1 P1 hHeld ⊢
      refine tkk 0 63 rfl rfl (by kernel_rfl) (fun _ _ _ _ h => h) (by rfl) (fun w h => by obtain ⟨h0, h1, h2, h3, h4, h5⟩ := h; go_simp; rfl) (by assumption) ?_
      simp only [set0, set1]
      refine tkk 1 64 rfl rfl (by kernel_rfl) (fun _ _ _ _ h => h) (by rfl) (fun w h => by obtain ⟨h0, h1, h2, h3, h4, h5⟩ := h; go_simp; rfl) (by assumption) ?_
      simp only [set0, set1]
      refine tkk 2 65 rfl rfl (by kernel_rfl) (fun _ _ _ _ h => h) (by rfl) (fun w h => by obtain ⟨h0, h1, h2, h3, h4, h5⟩ := h; go_simp; rfl) (by assumption) ?_
      simp only [set0, set1]
      refine tkk 3 66 rfl rfl (by kernel_rfl) (fun _ _ _ _ h => h) (by rfl) (fun w h => by obtain ⟨h0, h1, h2, h3, h4, h5⟩ := h; go_simp; rfl) (by assumption) ?_
      simp only [set0, set1]
      refine tkk 4 67 rfl rfl (by kernel_rfl) (fun _ _ _ _ h => h) (by rfl) (fun w h => by obtain ⟨h0, h1, h2, h3, h4, h5⟩ := h; go_simp; rfl) (by assumption) ?_
      simp only [set0, set1]
      refine tkk 5 68 rfl rfl (by kernel_rfl) (fun _ _ _ _ h => h) (by rfl) (fun w h => by obtain ⟨h0, h1, h2, h3, h4, h5⟩ := h; go_simp; rfl) (by assumption) ?_
      simp only [set0, set1]
      refine tkk 6 69 rfl rfl (by kernel_rfl) (fun _ _ _ _ h => h) (by rfl) (fun w h => by obtain ⟨h0, h1, h2, h3, h4, h5⟩ := h; go_simp; rfl) (by assumption) ?_
      simp only [set0, set1]
      refine tkk 7 70 rfl rfl (by kernel_rfl) (fun _ _ _ _ h => h) (by rfl) (fun w h => by obtain ⟨h0, h1, h2, h3, h4, h5⟩ := h; go_simp; rfl) (by assumption) ?_
      simp only [set0, set1]
      refine tkk 8 71 rfl rfl (by kernel_rfl) (fun _ _ _ _ h => h) (by rfl) (fun w h => by obtain ⟨h0, h1, h2, h3, h4, h5⟩ := h; go_simp; rfl) (by assumption) ?_
      simp only [set0, set1]
      refine wpAnyH_ready (rs := [9]) (by kernel_rfl) (by simp) ?_
      refine AllReadyH.cons rfl (fun K hK => ?_) AllReadyH.nil
      go_simp
      refine (refIsPsi_c EA.out.iv EB.out.iv EC.out.iv).mono ?_
      rintro e v2 ⟨rfl, hb⟩
      replace EA := Lib.hid (EA.out.next hb)
      replace EB := Lib.hid (EB.out.next hb)
      replace EC := Lib.hid (EC.out.next hb)
      replace Y1 := Lib.hid (Y1.out.next hb)
      replace P1 := Lib.hid (P1.out.trans (hb.mono P1.out.size))
      clear hb hHeld
      obtain ⟨x, hx⟩ : ∃ x, x = linkZ 1 za zb zc := ⟨_, rfl⟩
      rw [← hx]
      have HX := Lib.hid hx.symm
      clear hx
      refine hK.out _ _ (⟨EA.out.c0, EA.out.c1, EB.out.c0, EB.out.c1, EC.out.c0, EC.out.c1⟩) (fun hHeld => ?_)
      clear hK K
      refine tkk 10 8 rfl rfl (by kernel_rfl) (fun _ _ _ _ h => h) (by rfl) (fun w h => by obtain ⟨h0, h1, h2, h3, h4, h5⟩ := h; go_simp; rfl) (by assumption) ?_
      clear hHeld
      refine wpAnyH_done (by kernel_rfl) ?_ _
      clear EA EB EC
      have HX2 := Lib.hid (HLB.out.trans HX.out)
      clear a1
      cases x with
      | false =>
        have HF := Lib.hid (show holdsB ls ns = false from decide_eq_false fun q => by
         have := q j (by have := HL.out.1; omega)
         rw [HX2.out] at this
         cases this)
        go_wp2
        refine bodyPost_ret (v := .tuple #[.bool false, .int .i64 0]) (by simp [results, Tryz.results17, go_sem]) rfl ?_
        exact RHoldsP.mk' HF.out P1.out
      | true =>
        have HA2 := Lib.hid (show ∀ i, i < j + 1 → linkB (lnkAt ls i) ns = true from fun i hi => by
         by_cases e : i = j
         · rw [e]; exact HX2.out
         · exact HA.out i (by omega))
        go_wp2
        go_roundw
        case measure => simp [intOf]; omega
        case rel => exact ⟨j + 1, by go_num, by omega, P1.out, Y1.out, HA2.out⟩
    · obtain rfl : N3 = 3 := by have h := HLE.out.2.2.1; have h3 := HN3.out; have e : polysOf 2 = 3 := (by decide); omega
      obtain ⟨bV, oV, rfl, hE⟩ := zs_at RS.out HSZ.out (by omega)
      obtain ⟨ta, Aa, na, ca, ha⟩ := hE 0 (by omega)
      obtain ⟨tb, Ab, nb, cb, hb⟩ := hE 1 (by omega)
      obtain ⟨tc, Ac, nc, cc, hc⟩ := hE 2 (by omega)
      generalize zs.getD 0 0 = za at HLB ha
      generalize zs.getD 1 0 = zb at HLB hb
      generalize zs.getD 2 0 = zc at HLB hc
      have EA := Lib.hid (show NE W1 bV (oV) za ta Aa na ca from ha)
      have EB := Lib.hid (show NE W1 bV (oV + 2) zb tb Ab nb cb from hb)
      have EC := Lib.hid (show NE W1 bV (oV + 4) zc tc Ac nc cc from hc)
      clear hE ha hb hc HSZ HZL RS
      go_upto_region 14 with (fail)
      clear c0
      refine wp_region_held_drew (S := (fun w' => w'.cell? ⟨bV, oV, none⟩ = some (.bool ta) ∧ w'.cell? ⟨bV, (oV + 1), none⟩ = some (.slice Aa na ca) ∧ w'.cell? ⟨bV, (oV + 2), none⟩ = some (.bool tb) ∧ w'.cell? ⟨bV, (oV + 3), none⟩ = some (.slice Ab nb cb) ∧ w'.cell? ⟨bV, (oV + 4), none⟩ = some (.bool tc) ∧ w'.cell? ⟨bV, (oV + 5), none⟩ = some (.slice Ac nc cc))) (by kernel_rfl) (⟨cell_drq EA.out.c0, cell_drq EA.out.c1, cell_drq EB.out.c0, cell_drq EB.out.c1, cell_drq EC.out.c0, cell_drq EC.out.c1⟩) (fun hHeld => ?_)
      replace EA := Lib.hid (EA.out.next (Below.refl W1.heap.size W1).drew)
      replace EB := Lib.hid (EB.out.next (Below.refl W1.heap.size W1).drew)
      replace EC := Lib.hid (EC.out.next (Below.refl W1.heap.size W1).drew)
      replace Y1 := Lib.hid (Y1.out.next (Below.refl W1.heap.size W1).drew)
      replace P1 := Lib.hid (P1.out.trans ((Below.refl W1.heap.size W1).drew.mono P1.out.size))
      generalize W1.drew = D3 at EA EB EC Y1 P1 hHeld ⊢
      refine tkk 0 75 rfl rfl (by kernel_rfl) (fun _ _ _ _ h => h) (by rfl) (fun w h => by obtain ⟨h0, h1, h2, h3, h4, h5⟩ := h; go_simp; rfl) (by assumption) ?_
      simp only [set0, set1]
      refine tkk 1 76 rfl rfl (by kernel_rfl) (fun _ _ _ _ h => h) (by rfl) (fun w h => by obtain ⟨h0, h1, h2, h3, h4, h5⟩ := h; go_simp; rfl) (by assumption) ?_
      simp only [set0, set1]
      refine tkk 2 77 rfl rfl (by kernel_rfl) (fun _ _ _ _ h => h) (by rfl) (fun w h => by obtain ⟨h0, h1, h2, h3, h4, h5⟩ := h; go_simp; rfl) (by assumption) ?_
      simp only [set0, set1]
      refine tkk 3 78 rfl rfl (by kernel_rfl) (fun _ _ _ _ h => h) (by rfl) (fun w h => by obtain ⟨h0, h1, h2, h3, h4, h5⟩ := h; go_simp; rfl) (by assumption) ?_
      simp only [set0, set1]
      refine tkk 4 79 rfl rfl (by kernel_rfl) (fun _ _ _ _ h => h) (by rfl) (fun w h => by obtain ⟨h0, h1, h2, h3, h4, h5⟩ := h; go_simp; rfl) (by assumption) ?_
      simp only [set0, set1]
      refine tkk 5 80 rfl rfl (by kernel_rfl) (fun _ _ _ _ h => h) (by rfl) (fun w h => by obtain ⟨h0, h1, h2, h3, h4, h5⟩ := h; go_simp; rfl) (by assumption) ?_
      simp only [set0, set1]
      refine tkk 6 81 rfl rfl (by kernel_rfl) (fun _ _ _ _ h => h) (by rfl) (fun w h => by obtain ⟨h0, h1, h2, h3, h4, h5⟩ := h; go_simp; rfl) (by assumption) ?_
      simp only [set0, set1]
      refine tkk 7 82 rfl rfl (by kernel_rfl) (fun _ _ _ _ h => h) (by rfl) (fun w h => by obtain ⟨h0, h1, h2, h3, h4, h5⟩ := h; go_simp; rfl) (by assumption) ?_
      simp only [set0, set1]
      refine tkk 8 83 rfl rfl (by kernel_rfl) (fun _ _ _ _ h => h) (by rfl) (fun w h => by obtain ⟨h0, h1, h2, h3, h4, h5⟩ := h; go_simp; rfl) (by assumption) ?_
      simp only [set0, set1]
      refine wpAnyH_ready (rs := [9]) (by kernel_rfl) (by simp) ?_
      refine AllReadyH.cons rfl (fun K hK => ?_) AllReadyH.nil
      go_simp
      refine (refIsPower_c EA.out.iv EB.out.iv EC.out.iv).mono ?_
      rintro e v4 ⟨rfl, hb⟩
      replace EA := Lib.hid (EA.out.next hb)
      replace EB := Lib.hid (EB.out.next hb)
      replace EC := Lib.hid (EC.out.next hb)
      replace Y1 := Lib.hid (Y1.out.next hb)
      replace P1 := Lib.hid (P1.out.trans (hb.mono P1.out.size))
      clear hb hHeld
      obtain ⟨x, hx⟩ : ∃ x, x = linkZ 2 za zb zc := ⟨_, rfl⟩
      rw [show powB za zb zc = x from hx.symm]
      have HX := Lib.hid hx.symm
      clear hx
      refine hK.out _ _ (⟨EA.out.c0, EA.out.c1, EB.out.c0, EB.out.c1, EC.out.c0, EC.out.c1⟩) (fun hHeld => ?_)
      clear hK K
      refine tkk 10 8 rfl rfl (by kernel_rfl) (fun _ _ _ _ h => h) (by rfl) (fun w h => by obtain ⟨h0, h1, h2, h3, h4, h5⟩ := h; go_simp; rfl) (by assumption) ?_
      clear hHeld
      refine wpAnyH_done (by kernel_rfl) ?_ _
      clear EA EB EC
      have HX2 := Lib.hid (HLB.out.trans HX.out)
      clear a1
      cases x with
      | false =>
        have HF := Lib.hid (show holdsB ls ns = false from decide_eq_false fun q => by
         have := q j (by have := HL.out.1; omega)
         rw [HX2.out] at this
         cases this)
        go_wp2
        refine bodyPost_ret (v := .tuple #[.bool false, .int .i64 0]) (by simp [results, Tryz.results17, go_sem]) rfl ?_
        exact RHoldsP.mk' HF.out P1.out
      | true =>
        have HA2 := Lib.hid (show ∀ i, i < j + 1 → linkB (lnkAt ls i) ns = true from fun i hi => by
         by_cases e : i = j
         · rw [e]; exact HX2.out
         · exact HA.out i (by omega))
        go_wp2
        go_roundw
        case measure => simp [intOf]; omega
        case rel => exact ⟨j + 1, by go_num, by omega, P1.out, Y1.out, HA2.out⟩
    · obtain rfl : N3 = 2 := by have h := HLE.out.2.2.1; have h3 := HN3.out; have e : polysOf 3 = 2 := (by decide); omega
      obtain ⟨bV, oV, rfl, hE⟩ := zs_at RS.out HSZ.out (by omega)
      obtain ⟨ta, Aa, na, ca, ha⟩ := hE 0 (by omega)
      obtain ⟨tb, Ab, nb, cb, hb⟩ := hE 1 (by omega)
      generalize zs.getD 0 0 = za at HLB ha
      generalize zs.getD 1 0 = zb at HLB hb
      generalize zs.getD 2 0 = zc at HLB 
      have EA := Lib.hid (show NE W1 bV (oV) za ta Aa na ca from ha)
      have EB := Lib.hid (show NE W1 bV (oV + 2) zb tb Ab nb cb from hb)
      clear hE ha hb HSZ HZL RS
      cases ta with
      | true =>
        go_upto_region 8 with (fail)
        clear c0
        refine wp_region_held_drew (S := (fun w' => w'.cell? ⟨bV, oV, none⟩ = some (.bool true))) (by kernel_rfl) (cell_drq EA.out.c0) (fun hHeld => ?_)
        replace EA := Lib.hid (EA.out.next (Below.refl W1.heap.size W1).drew)
        replace EB := Lib.hid (EB.out.next (Below.refl W1.heap.size W1).drew)
        replace Y1 := Lib.hid (Y1.out.next (Below.refl W1.heap.size W1).drew)
        replace P1 := Lib.hid (P1.out.trans ((Below.refl W1.heap.size W1).drew.mono P1.out.size))
        generalize W1.drew = D5 at EA EB Y1 P1 hHeld ⊢
        refine tkk 0 34 rfl rfl (by kernel_rfl) (fun _ _ _ _ h => h) (by rfl) (fun w h0 => by go_simp; rfl) (by assumption) ?_
        simp only [set0, set1]
        refine tkk 1 35 rfl rfl (by kernel_rfl) (fun _ _ _ _ h => h) (by rfl) (fun w h0 => by go_simp; rfl) (by assumption) ?_
        simp only [set0, set1]
        refine tkk 2 36 rfl rfl (by kernel_rfl) (fun _ _ _ _ h => h) (by rfl) (fun w h0 => by go_simp; rfl) (by assumption) ?_
        simp only [set0, set1]
        refine tkk 3 37 rfl rfl (by kernel_rfl) (fun _ _ _ _ h => h) (by rfl) (fun w h0 => by go_simp; rfl) (by assumption) ?_
        simp only [set0, set1]
        refine tkk 4 38 rfl rfl (by kernel_rfl) (fun _ _ _ _ h => h) (by rfl) (fun w h0 => by go_simp; rfl) (by assumption) ?_
        simp only [set0, set1]
        refine tkk 5 39 rfl rfl (by kernel_rfl) (fun _ _ _ _ h => h) (by rfl) (fun w h0 => by go_simp; rfl) (by assumption) ?_
        simp only [set0, set1]
        refine tff 6 40 rfl rfl (by kernel_rfl) (fun _ _ _ _ h => h) (by rfl) (by assumption) ?_
        simp only [set0, set1]
        refine tff 7 41 rfl rfl (by kernel_rfl) (fun _ _ _ _ h => h) (by rfl) (by assumption) ?_
        simp only [set0, set1]
        refine tff 8 42 rfl rfl (by kernel_rfl) (fun _ _ _ _ h => h) (by rfl) (by assumption) ?_
        simp only [set0, set1]
        refine tff 9 43 rfl rfl (by kernel_rfl) (fun _ _ _ _ h => h) (by rfl) (by assumption) ?_
        simp only [set0, set1]
        refine tff 10 44 rfl rfl (by kernel_rfl) (fun _ _ _ _ h => h) (by rfl) (by assumption) ?_
        simp only [set0, set1]
        refine tkk 11 45 rfl rfl (by kernel_rfl) (fun _ _ _ _ h => h) (by rfl) (fun w h0 => by go_simp; rfl) (by assumption) ?_
        simp only [set0, set1]
        refine tkk 12 46 rfl rfl (by kernel_rfl) (fun _ _ _ _ h => h) (by rfl) (fun w h0 => by go_simp; rfl) (by assumption) ?_
        simp only [set0, set1]
        refine tff 13 47 rfl rfl (by kernel_rfl) (fun _ _ _ _ h => h) (by rfl) (by assumption) ?_
        simp only [set0, set1]
        refine tff 14 48 rfl rfl (by kernel_rfl) (fun _ _ _ _ h => h) (by rfl) (by assumption) ?_
        simp only [set0, set1]
        refine tff 15 49 rfl rfl (by kernel_rfl) (fun _ _ _ _ h => h) (by rfl) (by assumption) ?_
        simp only [set0, set1]
        refine tff 16 50 rfl rfl (by kernel_rfl) (fun _ _ _ _ h => h) (by rfl) (by assumption) ?_
        simp only [set0, set1]
        refine tff 17 51 rfl rfl (by kernel_rfl) (fun _ _ _ _ h => h) (by rfl) (by assumption) ?_
        simp only [set0, set1]
        refine tff 18 52 rfl rfl (by kernel_rfl) (fun _ _ _ _ h => h) (by rfl) (by assumption) ?_
        simp only [set0, set1]
        refine tff 19 53 rfl rfl (by kernel_rfl) (fun _ _ _ _ h => h) (by rfl) (by assumption) ?_
        simp only [set0, set1]
        refine tkk 20 54 rfl rfl (by kernel_rfl) (fun _ _ _ _ h => h) (by rfl) (fun w h0 => by go_simp; rfl) (by assumption) ?_
        simp only [set0, set1]
        refine tkk 21 8 rfl rfl (by kernel_rfl) (fun _ _ _ _ h => h) (by rfl) (fun w h0 => by go_simp; rfl) (by assumption) ?_
        clear hHeld
        refine wpAnyH_done (by kernel_rfl) ?_ _
        have HX := Lib.hid (show linkZ 3 za zb zc = false from link3_a (of_decide_eq_true EA.out.iv.is.1.symm))
        have HX2 := Lib.hid (HLB.out.trans HX.out)
        clear a1 EA EB
        have HF := Lib.hid (show holdsB ls ns = false from decide_eq_false fun q => by
         have := q j (by have := HL.out.1; omega)
         rw [HX2.out] at this
         cases this)
        go_wp2
        refine bodyPost_ret (v := .tuple #[.bool false, .int .i64 0]) (by simp [results, Tryz.results17, go_sem]) rfl ?_
        exact RHoldsP.mk' HF.out P1.out
      | false =>
      cases tb with
      | true =>
        go_upto_region 8 with (fail)
        clear c0
        refine wp_region_held_drew (S := (fun w' => w'.cell? ⟨bV, oV, none⟩ = some (.bool false) ∧ w'.cell? ⟨bV, (oV + 2), none⟩ = some (.bool true))) (by kernel_rfl) (⟨cell_drq EA.out.c0, cell_drq EB.out.c0⟩) (fun hHeld => ?_)
        replace EA := Lib.hid (EA.out.next (Below.refl W1.heap.size W1).drew)
        replace EB := Lib.hid (EB.out.next (Below.refl W1.heap.size W1).drew)
        replace Y1 := Lib.hid (Y1.out.next (Below.refl W1.heap.size W1).drew)
        replace P1 := Lib.hid (P1.out.trans ((Below.refl W1.heap.size W1).drew.mono P1.out.size))
        generalize W1.drew = D6 at EA EB Y1 P1 hHeld ⊢
        refine tkk 0 34 rfl rfl (by kernel_rfl) (fun _ _ _ _ h => h) (by rfl) (fun w h => by obtain ⟨h0, h1⟩ := h; go_simp; rfl) (by assumption) ?_
        simp only [set0, set1]
        refine tkk 1 35 rfl rfl (by kernel_rfl) (fun _ _ _ _ h => h) (by rfl) (fun w h => by obtain ⟨h0, h1⟩ := h; go_simp; rfl) (by assumption) ?_
        simp only [set0, set1]
        refine tkk 2 36 rfl rfl (by kernel_rfl) (fun _ _ _ _ h => h) (by rfl) (fun w h => by obtain ⟨h0, h1⟩ := h; go_simp; rfl) (by assumption) ?_
        simp only [set0, set1]
        refine tkk 3 37 rfl rfl (by kernel_rfl) (fun _ _ _ _ h => h) (by rfl) (fun w h => by obtain ⟨h0, h1⟩ := h; go_simp; rfl) (by assumption) ?_
        simp only [set0, set1]
        refine tkk 4 38 rfl rfl (by kernel_rfl) (fun _ _ _ _ h => h) (by rfl) (fun w h => by obtain ⟨h0, h1⟩ := h; go_simp; rfl) (by assumption) ?_
        simp only [set0, set1]
        refine tkk 5 39 rfl rfl (by kernel_rfl) (fun _ _ _ _ h => h) (by rfl) (fun w h => by obtain ⟨h0, h1⟩ := h; go_simp; rfl) (by assumption) ?_
        simp only [set0, set1]
        refine tkk 6 40 rfl rfl (by kernel_rfl) (fun _ _ _ _ h => h) (by rfl) (fun w h => by obtain ⟨h0, h1⟩ := h; go_simp; rfl) (by assumption) ?_
        simp only [set0, set1]
        refine tkk 7 41 rfl rfl (by kernel_rfl) (fun _ _ _ _ h => h) (by rfl) (fun w h => by obtain ⟨h0, h1⟩ := h; go_simp; rfl) (by assumption) ?_
        simp only [set0, set1]
        refine tkk 8 42 rfl rfl (by kernel_rfl) (fun _ _ _ _ h => h) (by rfl) (fun w h => by obtain ⟨h0, h1⟩ := h; go_simp; rfl) (by assumption) ?_
        simp only [set0, set1]
        refine tkk 9 43 rfl rfl (by kernel_rfl) (fun _ _ _ _ h => h) (by rfl) (fun w h => by obtain ⟨h0, h1⟩ := h; go_simp; rfl) (by assumption) ?_
        simp only [set0, set1]
        refine tkk 10 44 rfl rfl (by kernel_rfl) (fun _ _ _ _ h => h) (by rfl) (fun w h => by obtain ⟨h0, h1⟩ := h; go_simp; rfl) (by assumption) ?_
        simp only [set0, set1]
        refine tkk 11 45 rfl rfl (by kernel_rfl) (fun _ _ _ _ h => h) (by rfl) (fun w h => by obtain ⟨h0, h1⟩ := h; go_simp; rfl) (by assumption) ?_
        simp only [set0, set1]
        refine tkk 12 46 rfl rfl (by kernel_rfl) (fun _ _ _ _ h => h) (by rfl) (fun w h => by obtain ⟨h0, h1⟩ := h; go_simp; rfl) (by assumption) ?_
        simp only [set0, set1]
        refine tff 13 47 rfl rfl (by kernel_rfl) (fun _ _ _ _ h => h) (by rfl) (by assumption) ?_
        simp only [set0, set1]
        refine tff 14 48 rfl rfl (by kernel_rfl) (fun _ _ _ _ h => h) (by rfl) (by assumption) ?_
        simp only [set0, set1]
        refine tff 15 49 rfl rfl (by kernel_rfl) (fun _ _ _ _ h => h) (by rfl) (by assumption) ?_
        simp only [set0, set1]
        refine tff 16 50 rfl rfl (by kernel_rfl) (fun _ _ _ _ h => h) (by rfl) (by assumption) ?_
        simp only [set0, set1]
        refine tff 17 51 rfl rfl (by kernel_rfl) (fun _ _ _ _ h => h) (by rfl) (by assumption) ?_
        simp only [set0, set1]
        refine tff 18 52 rfl rfl (by kernel_rfl) (fun _ _ _ _ h => h) (by rfl) (by assumption) ?_
        simp only [set0, set1]
        refine tff 19 53 rfl rfl (by kernel_rfl) (fun _ _ _ _ h => h) (by rfl) (by assumption) ?_
        simp only [set0, set1]
        refine tkk 20 54 rfl rfl (by kernel_rfl) (fun _ _ _ _ h => h) (by rfl) (fun w h => by obtain ⟨h0, h1⟩ := h; go_simp; rfl) (by assumption) ?_
        simp only [set0, set1]
        refine tkk 21 8 rfl rfl (by kernel_rfl) (fun _ _ _ _ h => h) (by rfl) (fun w h => by obtain ⟨h0, h1⟩ := h; go_simp; rfl) (by assumption) ?_
        clear hHeld
        refine wpAnyH_done (by kernel_rfl) ?_ _
        have HX := Lib.hid (show linkZ 3 za zb zc = false from link3_b (of_decide_eq_true EB.out.iv.is.1.symm))
        have HX2 := Lib.hid (HLB.out.trans HX.out)
        clear a1 EA EB
        have HF := Lib.hid (show holdsB ls ns = false from decide_eq_false fun q => by
         have := q j (by have := HL.out.1; omega)
         rw [HX2.out] at this
         cases this)
        go_wp2
        refine bodyPost_ret (v := .tuple #[.bool false, .int .i64 0]) (by simp [results, Tryz.results17, go_sem]) rfl ?_
        exact RHoldsP.mk' HF.out P1.out
      | false =>
      go_upto_region 8 with (fail)
      clear c0
      refine wp_region_held_drew (S := (fun w' => w'.cell? ⟨bV, oV, none⟩ = some (.bool false) ∧ w'.cell? ⟨bV, (oV + 2), none⟩ = some (.bool false) ∧ w'.cell? ⟨bV, (oV + 1), none⟩ = some (.slice Aa na ca) ∧ w'.cell? ⟨bV, (oV + 3), none⟩ = some (.slice Ab nb cb))) (by kernel_rfl) (⟨cell_drq EA.out.c0, cell_drq EB.out.c0, cell_drq EA.out.c1, cell_drq EB.out.c1⟩) (fun hHeld => ?_)
      replace EA := Lib.hid (EA.out.next (Below.refl W1.heap.size W1).drew)
      replace EB := Lib.hid (EB.out.next (Below.refl W1.heap.size W1).drew)
      replace Y1 := Lib.hid (Y1.out.next (Below.refl W1.heap.size W1).drew)
      replace P1 := Lib.hid (P1.out.trans ((Below.refl W1.heap.size W1).drew.mono P1.out.size))
      generalize W1.drew = D7 at EA EB Y1 P1 hHeld ⊢
      refine tkk 0 34 rfl rfl (by kernel_rfl) (fun _ _ _ _ h => h) (by rfl) (fun w h => by obtain ⟨h0, h1, h2, h3⟩ := h; go_simp; rfl) (by assumption) ?_
      simp only [set0, set1]
      refine tkk 1 35 rfl rfl (by kernel_rfl) (fun _ _ _ _ h => h) (by rfl) (fun w h => by obtain ⟨h0, h1, h2, h3⟩ := h; go_simp; rfl) (by assumption) ?_
      simp only [set0, set1]
      refine tkk 2 36 rfl rfl (by kernel_rfl) (fun _ _ _ _ h => h) (by rfl) (fun w h => by obtain ⟨h0, h1, h2, h3⟩ := h; go_simp; rfl) (by assumption) ?_
      simp only [set0, set1]
      refine tkk 3 37 rfl rfl (by kernel_rfl) (fun _ _ _ _ h => h) (by rfl) (fun w h => by obtain ⟨h0, h1, h2, h3⟩ := h; go_simp; rfl) (by assumption) ?_
      simp only [set0, set1]
      refine tkk 4 38 rfl rfl (by kernel_rfl) (fun _ _ _ _ h => h) (by rfl) (fun w h => by obtain ⟨h0, h1, h2, h3⟩ := h; go_simp; rfl) (by assumption) ?_
      simp only [set0, set1]
      refine tkk 5 39 rfl rfl (by kernel_rfl) (fun _ _ _ _ h => h) (by rfl) (fun w h => by obtain ⟨h0, h1, h2, h3⟩ := h; go_simp; rfl) (by assumption) ?_
      simp only [set0, set1]
      refine tkk 6 40 rfl rfl (by kernel_rfl) (fun _ _ _ _ h => h) (by rfl) (fun w h => by obtain ⟨h0, h1, h2, h3⟩ := h; go_simp; rfl) (by assumption) ?_
      simp only [set0, set1]
      refine tkk 7 41 rfl rfl (by kernel_rfl) (fun _ _ _ _ h => h) (by rfl) (fun w h => by obtain ⟨h0, h1, h2, h3⟩ := h; go_simp; rfl) (by assumption) ?_
      simp only [set0, set1]
      refine tkk 8 42 rfl rfl (by kernel_rfl) (fun _ _ _ _ h => h) (by rfl) (fun w h => by obtain ⟨h0, h1, h2, h3⟩ := h; go_simp; rfl) (by assumption) ?_
      simp only [set0, set1]
      refine tkk 9 43 rfl rfl (by kernel_rfl) (fun _ _ _ _ h => h) (by rfl) (fun w h => by obtain ⟨h0, h1, h2, h3⟩ := h; go_simp; rfl) (by assumption) ?_
      simp only [set0, set1]
      refine tkk 10 44 rfl rfl (by kernel_rfl) (fun _ _ _ _ h => h) (by rfl) (fun w h => by obtain ⟨h0, h1, h2, h3⟩ := h; go_simp; rfl) (by assumption) ?_
      simp only [set0, set1]
      refine tkk 11 45 rfl rfl (by kernel_rfl) (fun _ _ _ _ h => h) (by rfl) (fun w h => by obtain ⟨h0, h1, h2, h3⟩ := h; go_simp; rfl) (by assumption) ?_
      simp only [set0, set1]
      refine tkk 12 46 rfl rfl (by kernel_rfl) (fun _ _ _ _ h => h) (by rfl) (fun w h => by obtain ⟨h0, h1, h2, h3⟩ := h; go_simp; rfl) (by assumption) ?_
      simp only [set0, set1]
      refine tkk 13 47 rfl rfl (by kernel_rfl) (fun _ _ _ _ h => h) (by rfl) (fun w h => by obtain ⟨h0, h1, h2, h3⟩ := h; go_simp; rfl) (by assumption) ?_
      simp only [set0, set1]
      refine tkk 14 48 rfl rfl (by kernel_rfl) (fun _ _ _ _ h => h) (by rfl) (fun w h => by obtain ⟨h0, h1, h2, h3⟩ := h; go_simp; rfl) (by assumption) ?_
      simp only [set0, set1]
      refine tkk 15 49 rfl rfl (by kernel_rfl) (fun _ _ _ _ h => h) (by rfl) (fun w h => by obtain ⟨h0, h1, h2, h3⟩ := h; go_simp; rfl) (by assumption) ?_
      simp only [set0, set1]
      refine tkk 16 50 rfl rfl (by kernel_rfl) (fun _ _ _ _ h => h) (by rfl) (fun w h => by obtain ⟨h0, h1, h2, h3⟩ := h; go_simp; rfl) (by assumption) ?_
      simp only [set0, set1]
      refine tkk 17 51 rfl rfl (by kernel_rfl) (fun _ _ _ _ h => h) (by rfl) (fun w h => by obtain ⟨h0, h1, h2, h3⟩ := h; go_simp; rfl) (by assumption) ?_
      simp only [set0, set1]
      refine tkk 18 52 rfl rfl (by kernel_rfl) (fun _ _ _ _ h => h) (by rfl) (fun w h => by obtain ⟨h0, h1, h2, h3⟩ := h; go_simp; rfl) (by assumption) ?_
      simp only [set0, set1]
      refine wpAnyH_ready (rs := [19]) (by kernel_rfl) (by simp) ?_
      refine AllReadyH.cons rfl (fun K hK => ?_) AllReadyH.nil
      go_simp
      refine (refUnder_v EA.out.iv EB.out.iv).mono ?_
      rintro e v8 ⟨rfl, hb⟩
      replace EA := Lib.hid (EA.out.next hb)
      replace EB := Lib.hid (EB.out.next hb)
      replace Y1 := Lib.hid (Y1.out.next hb)
      replace P1 := Lib.hid (P1.out.trans (hb.mono P1.out.size))
      clear hb hHeld
      obtain ⟨x, hx⟩ : ∃ x, x = linkZ 3 za zb 0 := ⟨_, rfl⟩
      rw [← hx]
      have HX := Lib.hid (show linkZ 3 za zb zc = x from hx.symm)
      clear hx
      refine hK.out _ _ (⟨EA.out.c0, EB.out.c0, EA.out.c1, EB.out.c1⟩) (fun hHeld => ?_)
      clear hK K
      refine tkk 20 54 rfl rfl (by kernel_rfl) (fun _ _ _ _ h => h) (by rfl) (fun w h => by obtain ⟨h0, h1, h2, h3⟩ := h; go_simp; rfl) (by assumption) ?_
      simp only [set0, set1]
      refine tkk 21 8 rfl rfl (by kernel_rfl) (fun _ _ _ _ h => h) (by rfl) (fun w h => by obtain ⟨h0, h1, h2, h3⟩ := h; go_simp; rfl) (by assumption) ?_
      clear hHeld
      refine wpAnyH_done (by kernel_rfl) ?_ _
      clear EA EB
      have HX2 := Lib.hid (HLB.out.trans HX.out)
      clear a1
      cases x with
      | false =>
        have HF := Lib.hid (show holdsB ls ns = false from decide_eq_false fun q => by
         have := q j (by have := HL.out.1; omega)
         rw [HX2.out] at this
         cases this)
        go_wp2
        refine bodyPost_ret (v := .tuple #[.bool false, .int .i64 0]) (by simp [results, Tryz.results17, go_sem]) rfl ?_
        exact RHoldsP.mk' HF.out P1.out
      | true =>
        have HA2 := Lib.hid (show ∀ i, i < j + 1 → linkB (lnkAt ls i) ns = true from fun i hi => by
         by_cases e : i = j
         · rw [e]; exact HX2.out
         · exact HA.out i (by omega))
        go_wp2
        go_roundw
        case measure => simp [intOf]; omega
        case rel => exact ⟨j + 1, by go_num, by omega, P1.out, Y1.out, HA2.out⟩
  · have e : j = n := by omega
    have t1 : decide ((j : Int) < (n : Int)) = false := decide_eq_false (by omega)
    have t1n : decide (j < n) = false := decide_eq_false hjn
    have HF := Lib.hid (show holdsB ls ns = true from decide_eq_true fun i hi => HA.out i (by have := HL.out.1; omega))
    clear e
    go_wp2
    refine bodyPost_ret (v := .tuple #[.bool true, .int .i64 0]) (by simp [results, Tryz.results17, go_sem]) rfl ?_
    exact RHoldsP.mk' HF.out P.out
end Go.Proofs.YteabokkofoomkaaGreat

import Derived.Test.YteabokkofoomkaaCbe
import Derived.BigRegion
set_option maxRecDepth 100000
namespace Go.Proofs.Yteabokkofoomkaa
open Go.RowKit Go.Shelf Go.Deep
def linkB (l : Lnk) (ns : List Nmr) : Bool := linkZ l.kind ((valsZ l.ps (ownOf l.vs ns)).getD 0 0) ((valsZ l.ps (ownOf l.vs ns)).getD 1 0) ((valsZ l.ps (ownOf l.vs ns)).getD 2 0)
def holdsB (ls : List Lnk) (ns : List Nmr) : Bool := decide (∀ i, i < ls.length → linkB (lnkAt ls i) ns = true)
def HR (T : Nat) (ls : List Lnk) (ns : List Nmr) (w : World) (e : Ending) (w' : World) : Prop :=
 ∃ r k, e = .returned (.tuple #[.bool r, .int .i64 k]) ∧ St T k ∧ (k = 0 → r = holdsB ls ns) ∧ (k ≠ 0 → r = false) ∧ Below w.heap.size w w'
def RetE (r : Bool) (k : Int) (w : World) (e : Ending) (w' : World) : Prop := e = .returned (.tuple #[.bool r, .int .i64 k]) ∧ Below w.heap.size w w'
def Ok1 (ls : List Lnk) (ns : List Nmr) : Prop := 0 < ls.length → ∀ j, j < (lnkAt ls 0).ps.length → Sz (pVal (plyAt (lnkAt ls 0).ps j).ts (ownOf (lnkAt ls 0).vs ns)) 4096
structure HoldsP (T : Nat) (V : Int) (ls : List Lnk) (ns : List Nmr) (w : World) (e : Ending) (w' : World) : Prop where
 form : (validS V ls && allB ns) = false → RetE false 1 w e w'
 arg : (validS V ls && allB ns) = true → (¬ (ns.length : Int) = V ∨ natB ns = false) → RetE false 2 w e w'
 val : (validS V ls && allB ns) = true → (ns.length : Int) = V → natB ns = true → HR T ls ns w e w'
 fit : ∀ r, e = .returned (.tuple #[.bool r, .int .i64 0]) → Ok1 ls ns
theorem HoldsP.of_form {T : Nat} {V : Int} {ls : List Lnk} {ns : List Nmr} {w w' : World} {e : Ending} (h : (validS V ls && allB ns) = false) (hb : RetE false 1 w e w') : HoldsP T V ls ns w e w' :=
 ⟨fun _ => hb, fun h' => absurd (h.symm.trans h') (by decide), fun h' => absurd (h.symm.trans h') (by decide), fun r q => absurd (hb.1.symm.trans q) (by simp)⟩
theorem HoldsP.of_arg {T : Nat} {V : Int} {ls : List Lnk} {ns : List Nmr} {w w' : World} {e : Ending} (h : (validS V ls && allB ns) = true) (hl : ¬ (ns.length : Int) = V ∨ natB ns = false) (hb : RetE false 2 w e w') : HoldsP T V ls ns w e w' :=
 ⟨fun h' => absurd (h.symm.trans h') (by decide), fun _ _ => hb, fun _ h' h2 => (by
  rcases hl with q | q
  · exact absurd h' q
  · rw [q] at h2; cases h2), fun r q => absurd (hb.1.symm.trans q) (by simp)⟩
theorem HoldsP.of_val {T : Nat} {V : Int} {ls : List Lnk} {ns : List Nmr} {w w' : World} {e : Ending} (h : (validS V ls && allB ns) = true) (hl : (ns.length : Int) = V) (hn : natB ns = true) (hb : HR T ls ns w e w') (hf : ∀ r, e = .returned (.tuple #[.bool r, .int .i64 0]) → Ok1 ls ns) : HoldsP T V ls ns w e w' :=
 ⟨fun h' => absurd (h.symm.trans h') (by decide), fun _ h' => absurd h' (fun q => q.elim (fun q => q hl) (fun q => by rw [q] at hn; cases hn)), fun _ _ _ => hb, hf⟩
theorem vs_at {V : Int} {ls : List Lnk} (h : validS V ls = true) {k : Nat} (hk : k < ls.length) : validLnk (lnkAt ls k) V = true := by
 simp only [validS, Bool.and_eq_true, decide_eq_true_eq] at h
 exact h.2 k hk
theorem vs_bounds {V : Int} {ls : List Lnk} (h : validS V ls = true) : 0 ≤ V ∧ V ≤ 20000 ∧ ls.length ≤ 20000 := by
 simp only [validS, Bool.and_eq_true, decide_eq_true_eq] at h
 exact h.1
theorem valsZ_len (ps : List Ply) (os : List Nmr) : (valsZ ps os).length = ps.length := List.length_map ..
theorem valsZ_at {ps : List Ply} {os : List Nmr} {i : Nat} (h : i < ps.length) : (valsZ ps os).getD i 0 = pVal (plyAt ps i).ts os := by
 simp [valsZ, plyAt, List.getD_eq_getElem?_getD, List.getElem?_eq_getElem h]
set_option maxHeartbeats 8000000 in
theorem sysHolds_c (T : Nat) (V : Int) (A : Option Addr) (n c : Nat) (ls : List Lnk) (X : Option Addr) (nx cx : Nat) (ns : List Nmr) (w : World) (h : RdL w A n ls) (h' : RdN w X nx ns) (hx : nx ≤ 9223372036854775807)
 (hT : validS V ls = true → (ns.length : Int) = V → ∀ i, i < ls.length → ∀ j, j < (lnkAt ls i).ps.length → allV (plyAt (lnkAt ls i).ps j).ts (ownOf (lnkAt ls i).vs ns) (plyAt (lnkAt ls i).ps j).ts.length ≤ T) :
 Calls Try.prog 11 #[aggS V A n c, .slice X nx cx] w (HoldsP T V ls ns w) := by
 have k0 := bel_alloc w (boxS V A n c)
 have P := Lib.hid k0
 have Y := Lib.hid (BxY.new w V A n c)
 have HI := Lib.hid (And.intro h h')
 have HX := Lib.hid hx
 have HT := Lib.hid hT
 have HL := Lib.hid (And.intro h.len h'.len)
 clear k0 h h' hx hT
 go_enter Try.func11, Try.ntmps11
 go_upto_region 1 with (fail)
 generalize w.alloc (boxS V A n c) = W0 at P Y ⊢
 obtain ⟨g, hg⟩ : ∃ g, g = w.heap.size := ⟨_, rfl⟩
 have HG := Lib.hid hg
 rw [← hg] at Y ⊢
 clear hg
 have a0 := Y.out.c0
 have a1 := Y.out.c1
 go_wp2_with fail
 refine (sysValid_c V A n c ls _ (HI.out.1.below P.out)).mono ?_
 rintro e w1 ⟨rfl, hb⟩
 replace P := Lib.hid (P.out.trans (hb.mono P.out.size))
 replace Y := Lib.hid (Y.out.next hb)
 clear hb a0 a1
 obtain ⟨v, hv⟩ : ∃ v, v = validS V ls := ⟨_, rfl⟩
 rw [← hv]
 have HV := Lib.hid hv
 clear hv
 cases v with
 | false =>
   have HF := Lib.hid (show (validS V ls && allB ns) = false by rw [← HV.out]; rfl)
   go_wp2
   refine bodyPost_ret (v := .tuple #[.bool false, .int .i64 1]) (by simp [results, Try.results11, go_sem]) rfl ?_
   exact HoldsP.of_form HF.out ⟨rfl, P.out⟩
 | true =>
 go_wp2_with fail
 refine (calcValid_c X nx cx ns _ (HI.out.2.below P.out) HX.out).mono ?_
 rintro e w2 ⟨rfl, hb⟩
 replace P := Lib.hid (P.out.trans (hb.mono P.out.size))
 replace Y := Lib.hid (Y.out.next hb)
 clear hb
 obtain ⟨u, hu⟩ : ∃ v, v = allB ns := ⟨_, rfl⟩
 rw [← hu]
 have HU := Lib.hid hu
 clear hu
 cases u with
 | false =>
   have HF := Lib.hid (show (validS V ls && allB ns) = false by rw [← HV.out, ← HU.out]; rfl)
   go_wp2
   refine bodyPost_ret (v := .tuple #[.bool false, .int .i64 1]) (by simp [results, Try.results11, go_sem]) rfl ?_
   exact HoldsP.of_form HF.out ⟨rfl, P.out⟩
 | true =>
 have HVU := Lib.hid (show (validS V ls && allB ns) = true by rw [← HV.out, ← HU.out]; rfl)
 have a0 := Y.out.c0
 by_cases hm : (nx : Int) = V
 case neg =>
  have t0 : ((nx : Int) != V) = true := by rw [bne_iff_ne]; exact hm
  have HF := Lib.hid (show ¬ (ns.length : Int) = V by rw [HL.out.2]; exact hm)
  clear hm
  go_wp2
  refine bodyPost_ret (v := .tuple #[.bool false, .int .i64 2]) (by simp [results, Try.results11, go_sem]) rfl ?_
  exact HoldsP.of_arg HVU.out (.inl HF.out) ⟨rfl, P.out⟩
 case pos =>
 have t0 : ((nx : Int) != V) = false := by rw [hm]; exact bne_self_eq_false _
 have HM := Lib.hid hm
 clear hm
 go_wp2_with fail
 refine (calcNatural_c X nx cx ns _ (HI.out.2.below P.out) HX.out).mono ?_
 rintro e w3 ⟨rfl, hb⟩
 replace P := Lib.hid (P.out.trans (hb.mono P.out.size))
 replace Y := Lib.hid (Y.out.next hb)
 clear hb a0 t0
 obtain ⟨u, hu⟩ : ∃ v, v = natB ns := ⟨_, rfl⟩
 rw [← hu]
 have HN := Lib.hid hu
 clear hu
 cases u with
 | false =>
   go_wp2
   refine bodyPost_ret (v := .tuple #[.bool false, .int .i64 2]) (by simp [results, Try.results11, go_sem]) rfl ?_
   exact HoldsP.of_arg HVU.out (.inr HN.out.symm) ⟨rfl, P.out⟩
 | true =>
 have HM2 := Lib.hid (show (ns.length : Int) = V by rw [HL.out.2]; exact HM.out)
 have HT2 := Lib.hid (HT.out HV.out.symm HM2.out)
 have HBD := Lib.hid (vs_bounds HV.out.symm)
 have hnn : n ≤ 20000 := by have h1 := HBD.out.2.2; have h2 := HL.out.1; omega
 obtain ⟨b, hbb⟩ : ∃ b, b = w3.heap.size := ⟨_, rfl⟩
 have k1 := bel_alloc w3 (.cells #[.int .i64 0] 68)
 have CC := Lib.hid (show Cc (w3.alloc (.cells #[.int .i64 0] 68)) b 0 from by
  rw [hbb]
  exact ⟨by simp, by go_simp, by go_simp⟩)
 have HB := Lib.hid (show w.heap.size ≤ b by rw [hbb]; exact P.out.size)
 have P2 := Lib.hid (P.out.trans (k1.mono P.out.size))
 have Y2 := Lib.hid (Y.out.next k1)
 clear k1 P Y HT
 go_upto_region 6 with (fail)
 rw [← hbb]
 clear hbb
 generalize w3.alloc (.cells #[.int .i64 0] 68) = W1 at CC P2 Y2 ⊢
 have a1 := Y2.out.c1
 go_wp2
 clear a1 Y2
 go_loopw [31] (fun v wr => ∃ j : Nat, v = .int .i64 (j : Int) ∧ j ≤ n ∧ Below w.heap.size w wr ∧ Cc wr b 0 ∧ (∀ i, i < j → linkB (lnkAt ls i) ns = true) ∧ (0 < j → Ok1 ls ns)) (fun v _ => n - (intOf v).toNat)
 case atStart => exact ⟨0, rfl, Nat.zero_le _, P2.out, CC.out, fun i hi => absurd hi (by omega), fun h0 => absurd h0 (by omega)⟩
 case round =>
  obtain ⟨j, rfl, hj, hp, hc, hall, hok⟩ := hrel
  clear P2 CC
  have P := Lib.hid hp
  have CC := Lib.hid hc
  have HA := Lib.hid hall
  have HOK := Lib.hid hok
  clear hp hc hall hok
  by_cases hjn : j < n
  · have t1 : decide ((j : Int) < (n : Int)) = true := decide_eq_true (by omega)
    have t1n : decide (j < n) = true := decide_eq_true hjn
    have hjI : (j : Int) < (n : Int) := by omega
    obtain ⟨bL, oL, rfl, hltL, hcL⟩ := HI.out.1.at_ (by omega)
    obtain ⟨B1, m1, d1, C1, p1, q1, hK⟩ := hcL j hjn
    obtain ⟨l, hl⟩ : ∃ x, x = lnkAt ls j := ⟨_, rfl⟩
    rw [← hl] at hK
    have HLK := Lib.hid hl
    have hK2 := hK.below hltL P.out
    have c0 := hK2.c0
    have c1 := hK2.c1
    have c2 := hK2.c2
    have HK := Lib.hid hK
    obtain ⟨kind, vs, ps⟩ := l
    dsimp only at c0
    clear hl hK hK2 hcL
    have k1 := bel_alloc wr (boxL kind B1 m1 d1 C1 p1 q1)
    have XL := Lib.hid (BxL.new wr kind B1 m1 d1 C1 p1 q1)
    have P2 := Lib.hid (P.out.trans (k1.mono P.out.size))
    have CC2 := Lib.hid (CC.out.below k1)
    have HGL := Lib.hid (show b < wr.heap.size from CC.out.lt)
    have hlk := vs_at HV.out.symm (k := j) (by have := HL.out.1; omega)
    rw [← HLK.out] at hlk
    have HVL := Lib.hid hlk
    have HLE := Lib.hid (vl_lens hlk)
    clear k1 P CC hlk
    go_upto_region 9 with (fail)
    generalize wr.alloc (boxL kind B1 m1 d1 C1 p1 q1) = W2 at XL P2 CC2 ⊢
    generalize wr.heap.size = gl at XL HGL ⊢
    clear c0 c1 c2
    have c0 := XL.out.c0
    have c1 := XL.out.c1
    have c2 := XL.out.c2
    go_wp2_with fail
    refine (values_c T b 0 w W2 kind B1 m1 d1 vs C1 p1 q1 ps X nx cx ns V P2.out HB.out CC2.out (St.zero T) HK.out.ri HK.out.rp HI.out.2 HVL.out HM.out HU.out.symm (by
     have h1 := HLE.out.2.2.1
     have h2 := HK.out.rp.len
     dsimp only at h1 h2
     simp only [polysOf] at h1
     split at h1
     · omega
     · split at h1 <;> omega) (by
     have h1 := HT2.out j (by have := HL.out.1; omega)
     rw [← HLK.out] at h1
     exact h1)).mono ?_
    rintro e W3 ⟨A5, c5, k5, rs, rfl, hs, hc, hr, hst, hz⟩
    have XL3 := Lib.hid (XL.out.stp (by have := HGL.out; omega) hs)
    have P3 := Lib.hid (P2.out.trans (hs.below P2.out.size HB.out))
    have CC3 := Lib.hid hc
    have RS := Lib.hid hr
    have ST := Lib.hid hst
    have HZ := Lib.hid hz
    clear hs hc hr hst hz XL P2 CC2 c0 c1 c2
    have b0 := CC3.out.c0
    by_cases hk5 : k5 = 0
    case neg =>
     have t2 : (k5 != 0) = true := by rw [bne_iff_ne]; exact hk5
     have HF := Lib.hid (show HR T ls ns w (.returned (.tuple #[.bool false, .int .i64 k5])) W3 from ⟨false, k5, rfl, ST.out, fun e => absurd e hk5, fun _ => rfl, P3.out⟩)
     have HF2 := Lib.hid (show ∀ r, Ending.returned (.tuple #[.bool false, .int .i64 k5]) = .returned (.tuple #[.bool r, .int .i64 0]) → Ok1 ls ns from fun r q => absurd (by simp at q; exact q.2) hk5)
     clear hk5
     go_upto_region 11 with (fail)
     go_region
     go_wp2
     refine bodyPost_ret (v := .tuple #[.bool false, .int .i64 k5]) (by simp [results, Try.results11, go_sem]) rfl ?_
     obtain ⟨r, k, e1, e2, e3, e4, e5⟩ := HF.out
     exact HoldsP.of_val HVU.out HM2.out HN.out.symm ⟨r, k, e1, e2, e3, e4, e5.drew⟩ HF2.out
    case pos =>
    subst hk5
    have t2 : ((0 : Int) != 0) = false := rfl
    obtain ⟨-, hz1, hz2⟩ := HZ.out rfl
    have RS2 := RS.out
    rw [hz1] at RS2
    have HLH := Lib.hid (linkHolds_c kind A5 ps.length c5 (valsZ ps (ownOf vs ns)) W3 HLE.out.1 HLE.out.2.1 RS2 (fun i hi => by
     rw [valsZ_len] at hi
     rw [valsZ_at hi]
     exact hz2 i hi) (by rw [valsZ_len]; exact HLE.out.2.2.1))
    have HO2 := Lib.hid (show Ok1 ls ns from by
     by_cases q : 0 < j
     · exact HOK.out q
     · obtain rfl : j = 0 := by omega
       intro _ i hi
       rw [← HLK.out] at hi ⊢
       exact hz2 i hi)
    clear hz1 hz2 RS2 RS HZ
    have c0 := XL3.out.c0
    go_wp2_with fail
    refine HLH.out.mono ?_
    rintro e W4 ⟨rfl, hb⟩
    obtain ⟨x, hx⟩ : ∃ x, x = linkZ kind ((valsZ ps (ownOf vs ns)).getD 0 0) ((valsZ ps (ownOf vs ns)).getD 1 0) ((valsZ ps (ownOf vs ns)).getD 2 0) := ⟨_, rfl⟩
    rw [← hx]
    have HX2 := Lib.hid (show linkB (lnkAt ls j) ns = x by rw [← HLK.out]; exact hx.symm)
    have P4 := Lib.hid (P3.out.trans (hb.mono P3.out.size))
    have CC4 := Lib.hid (CC3.out.below hb)
    clear hb hx HLH P3 CC3 XL3 c0 b0
    cases x with
    | false =>
      have HF := Lib.hid (show holdsB ls ns = false from decide_eq_false fun q => by
       have := q j (by have := HL.out.1; omega)
       rw [HX2.out] at this
       cases this)
      go_wp2
      refine bodyPost_ret (v := .tuple #[.bool false, .int .i64 0]) (by simp [results, Try.results11, go_sem]) rfl ?_
      exact HoldsP.of_val HVU.out HM2.out HN.out.symm ⟨false, 0, rfl, St.zero T, fun _ => HF.out.symm, fun _ => rfl, P4.out⟩ (fun _ _ => HO2.out)
    | true =>
      have HA2 := Lib.hid (show ∀ i, i < j + 1 → linkB (lnkAt ls i) ns = true from fun i hi => by
       by_cases e : i = j
       · rw [e]; exact HX2.out
       · exact HA.out i (by omega))
      go_wp2
      go_roundw
      case measure => simp [intOf]; omega
      case rel => exact ⟨j + 1, by go_num, by omega, P4.out, CC4.out, HA2.out, fun _ => HO2.out⟩
  · have e : j = n := by omega
    have t1 : decide ((j : Int) < (n : Int)) = false := decide_eq_false (by omega)
    have t1n : decide (j < n) = false := decide_eq_false hjn
    have HF := Lib.hid (show holdsB ls ns = true from decide_eq_true fun i hi => HA.out i (by have := HL.out.1; omega))
    have HO3 := Lib.hid (show Ok1 ls ns from by
     by_cases q : 0 < j
     · exact HOK.out q
     · intro h0; have := HL.out.1; omega)
    go_wp2
    refine bodyPost_ret (v := .tuple #[.bool true, .int .i64 0]) (by simp [results, Try.results11, go_sem]) rfl ?_
    exact HoldsP.of_val HVU.out HM2.out HN.out.symm ⟨true, 0, rfl, St.zero T, fun _ => HF.out.symm, fun h => absurd rfl h, P.out⟩ (fun _ _ => HO3.out)
end Go.Proofs.Yteabokkofoomkaa

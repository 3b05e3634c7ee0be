import Derived.Test.YteabokkofoomkaaGreatCap
import Derived.Test.YteabokkofoomkaaGreatCah
/- whether a term is valid: both sides -/
set_option maxRecDepth 100000
namespace Go.Proofs.YteabokkofoomkaaGreat
open Go.RowKit Go.Deep
set_option maxHeartbeats 1000000 in
theorem czero_c (s : Bool) (A : Option Addr) (n c : Nat) (w : World) : Calls Tryz.prog 81 #[.agg #[.bool s, .slice A n c]] w (RetB (decide (n = 0)) w) := by
  by_cases h : n = 0
  · subst h
    go_enter Tryz.func81, Tryz.ntmps81
    go_wp2
    go_ret
    exact ⟨rfl, below_alloc _ _⟩
  · have H := Lib.hid (show decide (n = 0) = false from decide_eq_false h)
    have t0 : ((n : Int) == 0) = false := by rw [beq_eq_false_iff_ne]; omega
    clear h
    go_enter Tryz.func81, Tryz.ntmps81
    go_wp2
    go_ret
    exact ⟨by rw [H.out]; rfl, below_alloc _ _⟩
theorem vt_false1 {t : Trm} {vars : Int} (h : validB t.s t.xs = false) : validTrm t vars = false := by simp [validTrm, h]
theorem vt_false2 {t : Trm} {vars : Int} (h : t.xs.length = 0) : validTrm t vars = false := by simp [validTrm, List.length_eq_zero_iff.1 h]
theorem vt_false3 {t : Trm} {vars : Int} (h : (t.es.length : Int) ≠ vars) : validTrm t vars = false := by simp [validTrm, validExps, h]
theorem vt_false4 {t : Trm} {vars : Int} {k : Nat} (hk : k < t.es.length) (h : ¬ (0 ≤ t.es.getD k 0 ∧ t.es.getD k 0 ≤ 120)) : validTrm t vars = false := by
  have : decide (∀ k, k < t.es.length → 0 ≤ t.es.getD k 0 ∧ t.es.getD k 0 ≤ 120) = false := decide_eq_false fun q => h (q k hk)
  simp only [validTrm, validExps, this, Bool.and_false, Bool.false_and]
theorem vt_last {t : Trm} {vars : Int} (h1 : validB t.s t.xs = true) (h2 : t.xs.length ≠ 0) (h3 : (t.es.length : Int) = vars) (h4 : ExpsIn t.es) : validTrm t vars = decide (sumI t.es ≤ 120) := by
  have : decide (∀ k, k < t.es.length → 0 ≤ t.es.getD k 0 ∧ t.es.getD k 0 ≤ 120) = true := decide_eq_true h4
  have e : decide (t.xs ≠ []) = true := decide_eq_true fun q => h2 (by rw [q]; rfl)
  simp only [validTrm, validExps, this, h1, e, decide_eq_true h3, Bool.true_and, Bool.and_true]
theorem vt_exps {t : Trm} {vars : Int} (h : validTrm t vars = true) : ExpsIn t.es ∧ (t.es.length : Int) = vars := by
  simp only [validTrm, validExps, Bool.and_eq_true, decide_eq_true_eq] at h
  exact ⟨h.2.1.2, h.2.1.1⟩
set_option maxHeartbeats 4000000 in
theorem validTerm_c (s : Bool) (A : Option Addr) (n c : Nat) (xs : List Nat) (B : Option Addr) (m d : Nat) (es : List Int) (vars : Int) (w : World) (h : Rd w A n xs) (h' : RdI w B m es) (hv : vars ≤ 1000000) :
    Calls Tryz.prog 111 #[aggT s A n c B m d, .int .i64 vars] w (RetB (validTrm ⟨s, xs, es⟩ vars) w) := by
  have k0 := bel_alloc w (boxT s A n c B m d)
  have P := Lib.hid k0
  have R1 := Lib.hid (h.below k0)
  have R2 := Lib.hid (h'.below k0)
  have X := Lib.hid (BxT.new w s A n c B m d)
  have HL := Lib.hid (And.intro h.len h'.len)
  have HV := Lib.hid hv
  clear h h' hv k0
  go_enter Tryz.func111, Tryz.ntmps111
  go_upto_region 1 with (fail)
  generalize w.alloc (boxT s A n c B m d) = W0 at P R1 R2 X ⊢
  obtain ⟨g, hg⟩ : ∃ g, g = w.heap.size := ⟨_, rfl⟩
  rw [← hg] at X ⊢
  clear hg
  have a0 := X.out.c0
  have a1 := X.out.c1
  go_wp2_with fail
  refine (valid_c s A n c xs _ R1.out).mono ?_
  rintro e w1 ⟨rfl, hb⟩
  replace P := Lib.hid (P.out.trans (hb.mono P.out.size))
  replace R2 := Lib.hid (R2.out.below hb)
  replace X := Lib.hid (X.out.next hb)
  clear hb a0 a1 R1
  obtain ⟨v, hvv⟩ : ∃ v, v = validB s xs := ⟨_, rfl⟩
  rw [← hvv]
  have HVB := Lib.hid hvv
  clear hvv
  cases v with
  | false =>
    have HF := Lib.hid (vt_false1 (t := ⟨s, xs, es⟩) (vars := vars) HVB.out.symm)
    go_wp2
    go_ret
    exact ⟨by rw [HF.out] <;> rfl, P.out⟩
  | true =>
    have a0 := X.out.c0
    have a1 := X.out.c1
    go_wp2_with fail
    refine (czero_c s A n c _).mono ?_
    rintro e w2 ⟨rfl, hb⟩
    replace P := Lib.hid (P.out.trans (hb.mono P.out.size))
    replace R2 := Lib.hid (R2.out.below hb)
    replace X := Lib.hid (X.out.next hb)
    clear hb a0 a1
    by_cases hn : n = 0
    · rw [decide_eq_true hn]
      have HF := Lib.hid (vt_false2 (t := ⟨s, xs, es⟩) (vars := vars) (HL.out.1.trans hn))
      clear hn
      go_wp2
      go_ret
      exact ⟨by rw [HF.out] <;> rfl, P.out⟩
    · rw [decide_eq_false hn]
      have HN := Lib.hid hn
      clear hn
      have a2 := X.out.c2
      by_cases hm : (m : Int) = vars
      · have t0 : ((m : Int) != vars) = false := by rw [hm]; exact bne_self_eq_false _
        have HM := Lib.hid hm
        clear hm
        go_wp2
        skip
        go_loopw [5, 27] (fun v5 v wr => ∃ k : Nat, v = .int .i64 (k : Int) ∧ v5 = .int .i64 (sumI (es.take k)) ∧ k ≤ m ∧ Below w.heap.size w wr ∧ BxT wr g s A n c B m d ∧ RdI wr B m es ∧ ∀ i, i < k → 0 ≤ es.getD i 0 ∧ es.getD i 0 ≤ 120) (fun _ v _ => m - (intOf v).toNat)
        case atStart => exact ⟨0, rfl, rfl, Nat.zero_le _, P.out, X.out, R2.out, fun i hi => absurd hi (by omega)⟩
        case round =>
          skip
          obtain ⟨k, rfl, rfl, hk, hp, hx, hr, hall⟩ := hrel
          clear P X R2 a2
          have hvm := HV.out
          have hmm := HM.out
          have P := Lib.hid hp
          have X := Lib.hid hx
          have R2 := Lib.hid hr
          have HA := Lib.hid hall
          have a2 := hx.c2
          clear hp hx hr hall
          by_cases hkm : k < m
          · have t1 : decide ((k : Int) < (m : Int)) = true := decide_eq_true (by omega)
            have t1v : decide ((k : Int) < vars) = true := decide_eq_true (by omega)
            have t1n : decide (k < m) = true := decide_eq_true hkm
            have hkI : (k : Int) < (m : Int) := by omega
            obtain ⟨b, o, rfl, hblt, hcell⟩ := R2.out.at_ (by omega)
            have c0 := hcell k hkm
            have hz1 : 0 ≤ es.getD k 0 → es.getD k 0 ≤ 120 → (es.getD k 0) + 0 ≤ 120 := by omega
            have HS := Lib.hid (sumI_take es k (by rw [HL.out.2]; exact hkm))
            have hbd : 0 ≤ sumI (es.take k) ∧ sumI (es.take k) ≤ 120 * k := by
              have hq := sumI_bound (es.take k) (fun i hi => by
                rw [List.length_take] at hi
                have e : (es.take k).getD i 0 = es.getD i 0 := by simp [List.getD_eq_getElem?_getD, show i < k by omega]
                rw [e]
                exact HA.out i (by omega)) k
              have hl := HL.out.2
              have e2 : (es.take k).take k = es.take k := List.take_of_length_le (by simp; omega)
              rw [e2] at hq
              exact hq (by simp; omega)
            generalize sumI (es.take k) = sv at HS hbd ⊢
            obtain ⟨z, hz⟩ : ∃ z, z = es.getD k 0 := ⟨_, rfl⟩
            rw [← hz] at c0 hz1 HS
            have HZ := Lib.hid hz
            clear hcell hz
            by_cases z0 : z < 0
            · have t2 : decide (z < 0) = true := decide_eq_true z0
              have HF := Lib.hid (vt_false4 (t := ⟨s, xs, es⟩) (vars := vars) (k := k) (by show k < es.length; rw [HL.out.2]; exact hkm) (by show ¬ (0 ≤ es.getD k 0 ∧ _); rw [← HZ.out]; omega))
              go_wp2
              go_ret
              exact ⟨by rw [HF.out] <;> rfl, P.out⟩
            · have t2 : decide (z < 0) = false := decide_eq_false z0
              by_cases z1 : 120 < z
              · have t3 : decide (120 < z) = true := decide_eq_true z1
                have HF := Lib.hid (vt_false4 (t := ⟨s, xs, es⟩) (vars := vars) (k := k) (by show k < es.length; rw [HL.out.2]; exact hkm) (by show ¬ (0 ≤ es.getD k 0 ∧ es.getD k 0 ≤ 120); rw [← HZ.out]; omega))
                go_wp2
                go_ret
                exact ⟨by rw [HF.out] <;> rfl, P.out⟩
              · have t3 : decide (120 < z) = false := decide_eq_false z1
                go_wp2
                go_roundw
                case measure => simp [intOf]; omega
                case rel => exact ⟨k + 1, by go_num, (by rw [HS.out] <;> (try go_num)), by omega, P.out, X.out, R2.out, fun i hi => by
                  by_cases e : i = k
                  · subst e; rw [← HZ.out]; omega
                  · exact HA.out i (by omega)⟩
          · have t1 : decide ((k : Int) < (m : Int)) = false := decide_eq_false (by omega)
            have t1v : decide ((k : Int) < vars) = false := decide_eq_false (by omega)
            have t1n : decide (k < m) = false := decide_eq_false hkm
            have HE := Lib.hid (show ExpsIn es from fun i hi => HA.out i (by rw [HL.out.2] at hi; omega))
            have HF := Lib.hid (vt_last (t := ⟨s, xs, es⟩) (vars := vars) HVB.out.symm (by show ¬ xs.length = 0; rw [HL.out.1]; exact HN.out) (by show (es.length : Int) = vars; rw [HL.out.2]; exact HM.out) HE.out)
            have HT := Lib.hid (show es.take k = es from List.take_of_length_le (by rw [HL.out.2]; omega))
            rw [HT.out]
            by_cases hs : sumI es ≤ 120
            · have t4 : decide (sumI es ≤ 120) = true := decide_eq_true hs
              rw [t4] at HF
              go_wp2
              go_ret
              exact ⟨by rw [HF.out] <;> rfl, P.out⟩
            · have t4 : decide (sumI es ≤ 120) = false := decide_eq_false hs
              rw [t4] at HF
              go_wp2
              go_ret
              exact ⟨by rw [HF.out] <;> rfl, P.out⟩
      · have t0 : ((m : Int) != vars) = true := by rw [bne_iff_ne]; exact hm
        have HF := Lib.hid (vt_false3 (t := ⟨s, xs, es⟩) (vars := vars) (by show (es.length : Int) ≠ vars; rw [HL.out.2]; exact hm))
        clear hm
        go_wp2
        go_ret
        exact ⟨by rw [HF.out] <;> rfl, P.out⟩
set_option maxHeartbeats 4000000 in
theorem refTerm_c (s : Bool) (A : Option Addr) (n c : Nat) (xs : List Nat) (B : Option Addr) (m d : Nat) (es : List Int) (vars : Int) (w : World) (h : Rd w A n xs) (h' : RdI w B m es) (hv : vars ≤ 1000000) :
    Calls Tryz.prog 103 #[aggT s A n c B m d, .int .i64 vars] w (RetB (validTrm ⟨s, xs, es⟩ vars) w) := by
  have k0 := bel_alloc w (boxT s A n c B m d)
  have P := Lib.hid k0
  have R1 := Lib.hid (h.below k0)
  have R2 := Lib.hid (h'.below k0)
  have X := Lib.hid (BxT.new w s A n c B m d)
  have HL := Lib.hid (And.intro h.len h'.len)
  have HV := Lib.hid hv
  clear h h' hv k0
  go_enter Tryz.func103, Tryz.ntmps103
  go_upto_region 1 with (fail)
  generalize w.alloc (boxT s A n c B m d) = W0 at P R1 R2 X ⊢
  obtain ⟨g, hg⟩ : ∃ g, g = w.heap.size := ⟨_, rfl⟩
  rw [← hg] at X ⊢
  clear hg
  have a0 := X.out.c0
  have a1 := X.out.c1
  go_wp2_with fail
  refine (refValid_c s A n c xs _ R1.out).mono ?_
  rintro e w1 ⟨rfl, hb⟩
  replace P := Lib.hid (P.out.trans (hb.mono P.out.size))
  replace R2 := Lib.hid (R2.out.below hb)
  replace X := Lib.hid (X.out.next hb)
  clear hb a0 a1 R1
  obtain ⟨v, hvv⟩ : ∃ v, v = validB s xs := ⟨_, rfl⟩
  rw [← hvv]
  have HVB := Lib.hid hvv
  clear hvv
  cases v with
  | false =>
    have HF := Lib.hid (vt_false1 (t := ⟨s, xs, es⟩) (vars := vars) HVB.out.symm)
    go_wp2
    go_ret
    exact ⟨by rw [HF.out] <;> rfl, P.out⟩
  | true =>
    have a0 := X.out.c0
    have a1 := X.out.c1
    go_wp2_with fail
    refine (zero_c s A n c _).mono ?_
    rintro e w2 ⟨rfl, hb⟩
    replace P := Lib.hid (P.out.trans (hb.mono P.out.size))
    replace R2 := Lib.hid (R2.out.below hb)
    replace X := Lib.hid (X.out.next hb)
    clear hb a0 a1
    by_cases hn : n = 0
    · rw [decide_eq_true hn]
      have HF := Lib.hid (vt_false2 (t := ⟨s, xs, es⟩) (vars := vars) (HL.out.1.trans hn))
      clear hn
      go_wp2
      go_ret
      exact ⟨by rw [HF.out] <;> rfl, P.out⟩
    · rw [decide_eq_false hn]
      have HN := Lib.hid hn
      clear hn
      have a2 := X.out.c2
      by_cases hm : (m : Int) = vars
      · have t0 : ((m : Int) != vars) = false := by rw [hm]; exact bne_self_eq_false _
        have HM := Lib.hid hm
        clear hm
        go_wp2
        skip
        go_loopw [5] (fun v wr => ∃ k : Nat, v = .int .i64 (k : Int) ∧ k ≤ m ∧ Below w.heap.size w wr ∧ BxT wr g s A n c B m d ∧ RdI wr B m es ∧ ∀ i, i < k → 0 ≤ es.getD i 0 ∧ es.getD i 0 ≤ 120) (fun v _ => m - (intOf v).toNat)
        case atStart => exact ⟨0, rfl, Nat.zero_le _, P.out, X.out, R2.out, fun i hi => absurd hi (by omega)⟩
        case round =>
          skip
          obtain ⟨k, rfl, hk, hp, hx, hr, hall⟩ := hrel
          clear P X R2 a2
          have hvm := HV.out
          have hmm := HM.out
          have P := Lib.hid hp
          have X := Lib.hid hx
          have R2 := Lib.hid hr
          have HA := Lib.hid hall
          have a2 := hx.c2
          clear hp hx hr hall
          by_cases hkm : k < m
          · have t1 : decide ((k : Int) < (m : Int)) = true := decide_eq_true (by omega)
            have t1v : decide ((k : Int) < vars) = true := decide_eq_true (by omega)
            have t1n : decide (k < m) = true := decide_eq_true hkm
            have hkI : (k : Int) < (m : Int) := by omega
            obtain ⟨b, o, rfl, hblt, hcell⟩ := R2.out.at_ (by omega)
            have c0 := hcell k hkm
            skip
            obtain ⟨z, hz⟩ : ∃ z, z = es.getD k 0 := ⟨_, rfl⟩
            rw [← hz] at c0
            have HZ := Lib.hid hz
            clear hcell hz
            by_cases z0 : z < 0
            · have t2 : decide (z < 0) = true := decide_eq_true z0
              have HF := Lib.hid (vt_false4 (t := ⟨s, xs, es⟩) (vars := vars) (k := k) (by show k < es.length; rw [HL.out.2]; exact hkm) (by show ¬ (0 ≤ es.getD k 0 ∧ _); rw [← HZ.out]; omega))
              go_wp2
              go_ret
              exact ⟨by rw [HF.out] <;> rfl, P.out⟩
            · have t2 : decide (z < 0) = false := decide_eq_false z0
              by_cases z1 : 120 < z
              · have t3 : decide (120 < z) = true := decide_eq_true z1
                have HF := Lib.hid (vt_false4 (t := ⟨s, xs, es⟩) (vars := vars) (k := k) (by show k < es.length; rw [HL.out.2]; exact hkm) (by show ¬ (0 ≤ es.getD k 0 ∧ es.getD k 0 ≤ 120); rw [← HZ.out]; omega))
                go_wp2
                go_ret
                exact ⟨by rw [HF.out] <;> rfl, P.out⟩
              · have t3 : decide (120 < z) = false := decide_eq_false z1
                go_wp2
                go_roundw
                case measure => simp [intOf]; omega
                case rel => exact ⟨k + 1, by go_num, by omega, P.out, X.out, R2.out, fun i hi => by
                  by_cases e : i = k
                  · subst e; rw [← HZ.out]; omega
                  · exact HA.out i (by omega)⟩
          · have t1 : decide ((k : Int) < (m : Int)) = false := decide_eq_false (by omega)
            have t1v : decide ((k : Int) < vars) = false := decide_eq_false (by omega)
            have t1n : decide (k < m) = false := decide_eq_false hkm
            have HE := Lib.hid (show ExpsIn es from fun i hi => HA.out i (by rw [HL.out.2] at hi; omega))
            have HF := Lib.hid (vt_last (t := ⟨s, xs, es⟩) (vars := vars) HVB.out.symm (by show ¬ xs.length = 0; rw [HL.out.1]; exact HN.out) (by show (es.length : Int) = vars; rw [HL.out.2]; exact HM.out) HE.out)
            go_wp2_with fail
            refine (refDegree_c B m d es _ R2.out HE.out (by omega)).mono ?_
            rintro e w3 ⟨rfl, hw⟩
            subst hw
            by_cases hs : sumI es ≤ 120
            · have t4 : decide (sumI es ≤ 120) = true := decide_eq_true hs
              rw [t4] at HF
              go_wp2
              go_ret
              exact ⟨by rw [HF.out] <;> rfl, P.out⟩
            · have t4 : decide (sumI es ≤ 120) = false := decide_eq_false hs
              rw [t4] at HF
              go_wp2
              go_ret
              exact ⟨by rw [HF.out] <;> rfl, P.out⟩
      · have t0 : ((m : Int) != vars) = true := by rw [bne_iff_ne]; exact hm
        have HF := Lib.hid (vt_false3 (t := ⟨s, xs, es⟩) (vars := vars) (by show (es.length : Int) ≠ vars; rw [HL.out.2]; exact hm))
        clear hm
        go_wp2
        go_ret
        exact ⟨by rw [HF.out] <;> rfl, P.out⟩
end Go.Proofs.YteabokkofoomkaaGreat

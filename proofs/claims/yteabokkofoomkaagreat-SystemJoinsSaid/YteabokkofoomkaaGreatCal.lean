import Derived.Test.YteabokkofoomkaaGreatCak
import Derived.Test.YteabokkofoomkaaGreatCaj
import Derived.Test.YteabokkofoomkaaGreatCai
import Derived.Test.YteabokkofoomkaaGreatCag
import Derived.Deep.QuietTactic
import Derived.BigQuiet
set_option maxRecDepth 100000
namespace Go.Proofs.YteabokkofoomkaaGreat
open Go.RowKit Go.Deep
theorem cell_drq {w : World} {a : Addr} {v : Value} (h : w.cell? a = some v) : w.drew.cell? a = some v := h
abbrev aggT (s : Bool) (A : Option Addr) (n c : Nat) (B : Option Addr) (m d : Nat) : Value := .agg #[.bool s, .slice A n c, .slice B m d]
abbrev boxT (s : Bool) (A : Option Addr) (n c : Nat) (B : Option Addr) (m d : Nat) : Obj := .cells #[.bool s, .slice A n c, .slice B m d] 70
structure BxT (W : World) (g : Nat) (s : Bool) (A : Option Addr) (n c : Nat) (B : Option Addr) (m d : Nat) : Prop where
 lt : g < W.heap.size
 c0 : W.cell? ⟨g, 0, none⟩ = some (.bool s)
 c1 : W.cell? ⟨g, 1, none⟩ = some (.slice A n c)
 c2 : W.cell? ⟨g, 2, none⟩ = some (.slice B m d)
theorem BxT.next {W W' : World} {g : Nat} {s : Bool} {A : Option Addr} {n c : Nat} {B : Option Addr} {m d : Nat} (h : BxT W g s A n c B m d) (hb : Below W.heap.size W W') : BxT W' g s A n c B m d :=
 ⟨Nat.lt_of_lt_of_le h.lt hb.size, (hb.cell (p := ⟨g, 0, none⟩) h.lt).trans h.c0, (hb.cell (p := ⟨g, 1, none⟩) h.lt).trans h.c1, (hb.cell (p := ⟨g, 2, none⟩) h.lt).trans h.c2⟩
theorem BxT.new (W : World) (s : Bool) (A : Option Addr) (n c : Nat) (B : Option Addr) (m d : Nat) : BxT (W.alloc (boxT s A n c B m d)) W.heap.size s A n c B m d :=
 ⟨by simp, by go_simp, by go_simp, by go_simp⟩
theorem ordT_lt {a b : List Int} (h : sumI a < sumI b) : ordT a b = -1 := if_pos h
theorem ordT_gt {a b : List Int} (h : sumI b < sumI a) : ordT a b = 1 := by unfold ordT; rw [if_neg (by omega), if_pos h]
theorem ordT_eq {a b : List Int} (h : sumI a = sumI b) : ordT a b = lexI a b := by unfold ordT; rw [if_neg (by omega), if_neg (by omega)]
set_option maxHeartbeats 2000000 in
theorem compareTerms_c (s : Bool) (A : Option Addr) (n c : Nat) (B : Option Addr) (m d : Nat) (s' : Bool) (A' : Option Addr) (n' c' : Nat) (B' : Option Addr) (d' : Nat) (ps qs : List Int) (w : World)
 (h : RdI w B m ps) (h' : RdI w B' m qs) (he : ExpsIn ps) (he' : ExpsIn qs) (hm : m ≤ 1000000) :
 Calls Tryz.prog 112 #[aggT s A n c B m d, aggT s' A' n' c' B' m d'] w fun e w' => e = .returned (.int .i64 (ordT ps qs)) ∧ Below w.heap.size w w' := by
 have k0 := bel_alloc w (boxT s A n c B m d)
 have k1 := bel_alloc (w.alloc (boxT s A n c B m d)) (boxT s' A' n' c' B' m d')
 have P := Lib.hid (k0.trans (k1.mono k0.size))
 have R1 := Lib.hid ((h.below k0).below k1)
 have R2 := Lib.hid ((h'.below k0).below k1)
 have X1 := Lib.hid ((BxT.new w s A n c B m d).next k1)
 have X2 := Lib.hid (BxT.new (w.alloc (boxT s A n c B m d)) s' A' n' c' B' m d')
 rw [World.size_alloc] at X2
 have HE := Lib.hid (And.intro he (And.intro he' hm))
 clear h h' he he' hm k0 k1
 go_enter Tryz.func112, Tryz.ntmps112
 go_upto_region 1 with (fail)
 generalize (w.alloc (boxT s A n c B m d)).alloc (boxT s' A' n' c' B' m d') = W0 at P R1 R2 X1 X2 ⊢
 obtain ⟨g, hg⟩ : ∃ g, g = w.heap.size := ⟨_, rfl⟩
 rw [← hg] at X1 X2 ⊢
 clear hg
 have GD1 := Lib.hid (fun W h => degree_c B m d ps W h HE.out.1 HE.out.2.2)
 have GD2 := Lib.hid (fun W h => degree_c B' m d' qs W h HE.out.2.1 HE.out.2.2)
 have HO := Lib.hid (show (sumI ps < sumI qs → ordT ps qs = -1) ∧ (sumI qs < sumI ps → ordT ps qs = 1) ∧ (sumI ps = sumI qs → ordT ps qs = lexI ps qs) from ⟨ordT_lt, ordT_gt, ordT_eq⟩)
 generalize sumI ps = sp at HO GD1
 generalize sumI qs = sq at HO GD2
 have HC := Lib.hid (cmpI_c sp sq)
 have HS := Lib.hid (show sgnI sp sq = if sp < sq then -1 else if sq < sp then 1 else 0 from rfl)
 generalize sgnI sp sq = sg at HC HS
 refine wp_region_held_drew (S := (fun w' => w'.cell? ⟨g, 2, none⟩ = some (.slice B m d) ∧ w'.cell? ⟨g + 1, 2, none⟩ = some (.slice B' m d'))) (by kernel_rfl) (⟨cell_drq X1.out.c2, cell_drq X2.out.c2⟩) (fun hHeld => ?_)
 replace P := Lib.hid (P.out.trans ((Below.refl W0.heap.size W0).drew.mono P.out.size))
 replace R1 := Lib.hid (R1.out.below (Below.refl W0.heap.size W0).drew)
 replace R2 := Lib.hid (R2.out.below (Below.refl W0.heap.size W0).drew)
 replace X1 := Lib.hid (X1.out.next (Below.refl W0.heap.size W0).drew)
 replace X2 := Lib.hid (X2.out.next (Below.refl W0.heap.size W0).drew)
 generalize W0.drew = D1 at P R1 R2 X1 X2 hHeld ⊢
 refine tkk 0 6 rfl rfl (by kernel_rfl) (fun _ _ _ _ h => h) (by rfl) (fun w h => by obtain ⟨h0, h1⟩ := h; go_simp; rfl) (by assumption) ?_
 simp only [set0, set1]
 refine tkk 1 7 rfl rfl (by kernel_rfl) (fun _ _ _ _ h => h) (by rfl) (fun w h => by obtain ⟨h0, h1⟩ := h; go_simp; rfl) (by assumption) ?_
 simp only [set0, set1]
 refine tkk 3 9 rfl rfl (by kernel_rfl) (fun _ _ _ _ h => h) (by rfl) (fun w h => by obtain ⟨h0, h1⟩ := h; go_simp; rfl) (by assumption) ?_
 simp only [set0, set1]
 refine tkk 4 10 rfl rfl (by kernel_rfl) (fun _ _ _ _ h => h) (by rfl) (fun w h => by obtain ⟨h0, h1⟩ := h; go_simp; rfl) (by assumption) ?_
 simp only [set0, set1]
 refine wpAnyH_ready (rs := [2]) (by kernel_rfl) (by simp) ?_
 refine AllReadyH.cons rfl (fun K hK => ?_) AllReadyH.nil
 go_simp
 refine (GD1.out D1 R1.out).mono ?_
 rintro e v2 ⟨rfl, hw⟩
 subst hw
 clear hHeld
 refine hK.out _ _ (⟨X1.out.c2, X2.out.c2⟩) (fun hHeld => ?_)
 clear hK K
 refine wpAnyH_ready (rs := [5]) (by kernel_rfl) (by simp) ?_
 refine AllReadyH.cons rfl (fun K hK => ?_) AllReadyH.nil
 go_simp
 refine (GD2.out v2 R2.out).mono ?_
 rintro e v3 ⟨rfl, hw⟩
 subst hw
 clear hHeld
 refine hK.out _ _ (⟨X1.out.c2, X2.out.c2⟩) (fun hHeld => ?_)
 clear hK K
 refine wpAnyH_ready (rs := [6]) (by kernel_rfl) (by simp) ?_
 refine AllReadyH.cons rfl (fun K hK => ?_) AllReadyH.nil
 go_simp
 refine (HC.out v3).mono ?_
 rintro e v4 ⟨rfl, hw⟩
 subst hw
 clear hHeld
 refine hK.out _ _ (⟨X1.out.c2, X2.out.c2⟩) (fun hHeld => ?_)
 clear hK K
 refine tkk 7 5 rfl rfl (by kernel_rfl) (fun _ _ _ _ h => h) (by rfl) (fun w h => by obtain ⟨h0, h1⟩ := h; go_simp; rfl) (by assumption) ?_
 clear hHeld
 refine wpAnyH_done (by kernel_rfl) ?_ _
 rcases Int.lt_trichotomy sp sq with q | q | q
 · have e := HS.out
   rw [if_pos q] at e
   subst e
   have HF := Lib.hid (HO.out.1 q)
   go_wp2
   go_ret
   exact ⟨by rw [HF.out] <;> rfl, P.out⟩
 · have e := HS.out
   rw [if_neg (by omega), if_neg (by omega)] at e
   subst e
   have HF := Lib.hid (HO.out.2.2 q)
   have a1 := X1.out.c2
   have a2 := X2.out.c2
   clear q
   go_wp2_with fail
   refine (cmpSlice_c B B' m d d' ps qs _ R1.out R2.out HE.out.2.2).mono ?_
   rintro e w1 ⟨rfl, hw⟩
   subst hw
   go_wp2
   go_ret
   exact ⟨by rw [HF.out] <;> rfl, P.out⟩
 · have e := HS.out
   rw [if_neg (by omega), if_pos q] at e
   subst e
   have HF := Lib.hid (HO.out.2.1 q)
   go_wp2
   go_ret
   exact ⟨by rw [HF.out] <;> rfl, P.out⟩
structure OrdS (ps qs : List Int) (k : Nat) (f s : Int) : Prop where
 z : k = 0 → f = sumI ps ∧ s = sumI qs
 p : 0 < k → f = ps.getD (k - 1) 0 ∧ s = qs.getD (k - 1) 0 ∧ sumI ps = sumI qs ∧ ∀ i, i < k - 1 → ps.getD i 0 = qs.getD i 0
theorem OrdS.next {ps qs : List Int} {k : Nat} {f s : Int} (h : OrdS ps qs k f s) (he : f = s) : OrdS ps qs (k + 1) (ps.getD k 0) (qs.getD k 0) := by
 refine ⟨fun h0 => by omega, fun _ => ⟨rfl, rfl, ?_, ?_⟩⟩
 · rcases Nat.eq_zero_or_pos k with h0 | h0
   · have := h.z h0; omega
   · exact (h.p h0).2.2.1
 · intro i hi
   have h0 : 0 < k := by omega
   have hp := h.p h0
   by_cases e : i = k - 1
   · subst e; omega
   · exact hp.2.2.2 i (by omega)
theorem OrdS.lt {ps qs : List Int} {m k : Nat} {f s : Int} (h : OrdS ps qs k f s) (l1 : ps.length = m) (l2 : qs.length = m) (hk : k ≤ m) (hl : f < s) : ordT ps qs = -1 := by
 rcases Nat.eq_zero_or_pos k with h0 | h0
 · have := h.z h0; exact ordT_lt (by omega)
 · have hp := h.p h0
   rw [ordT_eq hp.2.2.1]
   exact (lexI_at ps qs (k - 1) (by omega) (by omega) hp.2.2.2).1 (by omega)
theorem OrdS.gt {ps qs : List Int} {m k : Nat} {f s : Int} (h : OrdS ps qs k f s) (l1 : ps.length = m) (l2 : qs.length = m) (hk : k ≤ m) (hl : s < f) : ordT ps qs = 1 := by
 rcases Nat.eq_zero_or_pos k with h0 | h0
 · have := h.z h0; exact ordT_gt (by omega)
 · have hp := h.p h0
   rw [ordT_eq hp.2.2.1]
   exact (lexI_at ps qs (k - 1) (by omega) (by omega) hp.2.2.2).2 (by omega)
theorem OrdS.eq {ps qs : List Int} {m : Nat} {f s : Int} (h : OrdS ps qs m f s) (l1 : ps.length = m) (l2 : qs.length = m) (he : f = s) : ordT ps qs = 0 := by
 have hn := h.next he
 have hp := hn.p (by omega)
 rw [ordT_eq hp.2.2.1]
 exact lexI_self ps qs (by omega) fun i hi => hp.2.2.2 i (by omega)
set_option maxHeartbeats 4000000 in
theorem refOrder_c (B : Option Addr) (m d : Nat) (B' : Option Addr) (d' : Nat) (ps qs : List Int) (w : World) (h : RdI w B m ps) (h' : RdI w B' m qs) (he : ExpsIn ps) (he' : ExpsIn qs) (hm : m ≤ 1000000) :
 Calls Tryz.prog 104 #[.slice B m d, .slice B' m d'] w fun e w' => e = .returned (.int .i64 (ordT ps qs)) ∧ Below w.heap.size w w' := by
 have D1 := Lib.hid (refDegree_c B m d ps w h he hm)
 have D2 := Lib.hid (refDegree_c B' m d' qs w h' he' hm)
 have HA := Lib.hid h
 have HB := Lib.hid h'
 have HL := Lib.hid (And.intro h.len h'.len)
 have HM := Lib.hid hm
 have HZ := Lib.hid (show OrdS ps qs 0 (sumI ps) (sumI qs) from ⟨fun _ => ⟨rfl, rfl⟩, fun h0 => absurd h0 (by omega)⟩)
 clear h h' he he' hm
 generalize sumI ps = sp at D1 HZ
 generalize sumI qs = sq at D2 HZ
 go_enter Tryz.func104, Tryz.ntmps104
 go_wp2_with fail
 refine D1.out.mono ?_
 rintro e w1 ⟨rfl, hw⟩
 subst hw
 go_wp2_with fail
 refine D2.out.mono ?_
 rintro e w1 ⟨rfl, hw⟩
 subst hw
 clear D1 D2
 go_wp2
 go_loopw [5, 6, 7] (fun v5 v6 v7 wr => ∃ (k : Nat) (f s : Int), v5 = .int .i64 f ∧ v6 = .int .i64 s ∧ v7 = .int .i64 (k : Int) ∧ k ≤ m ∧ OrdS ps qs k f s ∧ Below w1.heap.size w1 wr) (fun _ _ v _ => m - (intOf v).toNat)
 case atStart => exact ⟨0, _, _, rfl, rfl, rfl, Nat.zero_le _, HZ.out, Below.refl _ _⟩
 case round =>
  obtain ⟨k, f, s, rfl, rfl, rfl, hk, hO, hp⟩ := hrel
  have hM := HM.out
  have P := Lib.hid hp
  have OS := Lib.hid hO
  replace HA := Lib.hid (HA.out.below hp)
  replace HB := Lib.hid (HB.out.below hp)
  clear hp hO HZ
  by_cases hkm : k < m
  · have t1 : decide ((k : Int) < (m : Int)) = true := decide_eq_true (by omega)
    have t1n : decide (k < m) = true := decide_eq_true hkm
    have hkI : (k : Int) < (m : Int) := by omega
    by_cases hfs : f = s
    · have t2 : (f == s) = true := by rw [hfs]; exact beq_self_eq_true _
      obtain ⟨b1, o1, hA, _, hc1⟩ := HA.out.at_ (by omega)
      obtain ⟨b2, o2, hB, _, hc2⟩ := HB.out.at_ (by omega)
      have c1 := hc1 k hkm
      have c2 := hc2 k hkm
      have HN := Lib.hid (OS.out.next hfs)
      obtain ⟨x, hx⟩ : ∃ x, x = ps.getD k 0 := ⟨_, rfl⟩
      obtain ⟨y, hy⟩ : ∃ y, y = qs.getD k 0 := ⟨_, rfl⟩
      rw [← hx] at c1 HN
      rw [← hy] at c2 HN
      subst hA hB
      clear hc1 hc2 hx hy hfs
      go_upto_region 5 with (fail)
      go_quiet (fail)
      have hb := below_drewN (Below.refl wr.heap.size wr) nq
      replace P := Lib.hid (P.out.trans (hb.mono P.out.size))
      clear c1 c2 hb
      generalize wr.drewN nq = W1 at P ⊢
      go_wp2
      go_roundw
      case measure => simp [intOf]; omega
      case rel => exact ⟨k + 1, x, y, rfl, rfl, by go_num, by omega, HN.out, P.out⟩
    · have t2 : (f == s) = false := by rw [beq_eq_false_iff_ne]; exact hfs
      by_cases hl : f < s
      · have t3 : decide (s < f) = false := decide_eq_false (by omega)
        have t4 : decide (f < s) = true := decide_eq_true hl
        have HF := Lib.hid (OS.out.lt HL.out.1 HL.out.2 hk hl)
        go_wp2
        go_ret
        exact ⟨by rw [HF.out] <;> rfl, P.out⟩
      · have t3 : decide (s < f) = true := decide_eq_true (by omega)
        have HF := Lib.hid (OS.out.gt HL.out.1 HL.out.2 hk (by omega))
        go_wp2
        go_ret
        exact ⟨by rw [HF.out] <;> rfl, P.out⟩
  · have t1 : decide ((k : Int) < (m : Int)) = false := decide_eq_false (by omega)
    have t1n : decide (k < m) = false := decide_eq_false hkm
    rcases Int.lt_trichotomy f s with q | q | q
    · have t3 : decide (s < f) = false := decide_eq_false (by omega)
      have t4 : decide (f < s) = true := decide_eq_true q
      have HF := Lib.hid (OS.out.lt HL.out.1 HL.out.2 hk q)
      go_wp2
      go_ret
      exact ⟨by rw [HF.out] <;> rfl, P.out⟩
    · have t3 : decide (s < f) = false := decide_eq_false (by omega)
      have t4 : decide (f < s) = false := decide_eq_false (by omega)
      obtain rfl : k = m := by omega
      have HF := Lib.hid (OS.out.eq HL.out.1 HL.out.2 q)
      go_wp2
      go_ret
      exact ⟨by rw [HF.out] <;> rfl, P.out⟩
    · have t3 : decide (s < f) = true := decide_eq_true q
      have HF := Lib.hid (OS.out.gt HL.out.1 HL.out.2 hk q)
      go_wp2
      go_ret
      exact ⟨by rw [HF.out] <;> rfl, P.out⟩
set_option maxHeartbeats 1000000 in
theorem czero_c (s : Bool) (A : Option Addr) (n c : Nat) (w : World) : Calls Tryz.prog 81 #[.agg #[.bool s, .slice A n c]] w (RetB (decide (n = 0)) w) := by
 by_cases h : n = 0
 · subst h
   go_enter Tryz.func81, Tryz.ntmps81
   go_wp2
   go_ret
   exact ⟨rfl, below_alloc _ _⟩
 · have H := Lib.hid (show decide (n = 0) = false from decide_eq_false h)
   have t0 : ((n : Int) == 0) = false := by rw [beq_eq_false_iff_ne]; omega
   clear h
   go_enter Tryz.func81, Tryz.ntmps81
   go_wp2
   go_ret
   exact ⟨by rw [H.out]; rfl, below_alloc _ _⟩
theorem vt_false1 {t : Trm} {vars : Int} (h : validB t.s t.xs = false) : validTrm t vars = false := by simp [validTrm, h]
theorem vt_false2 {t : Trm} {vars : Int} (h : t.xs.length = 0) : validTrm t vars = false := by simp [validTrm, List.length_eq_zero_iff.1 h]
theorem vt_false3 {t : Trm} {vars : Int} (h : (t.es.length : Int) ≠ vars) : validTrm t vars = false := by simp [validTrm, validExps, h]
theorem vt_false4 {t : Trm} {vars : Int} {k : Nat} (hk : k < t.es.length) (h : ¬ (0 ≤ t.es.getD k 0 ∧ t.es.getD k 0 ≤ 120)) : validTrm t vars = false := by
 have : decide (∀ k, k < t.es.length → 0 ≤ t.es.getD k 0 ∧ t.es.getD k 0 ≤ 120) = false := decide_eq_false fun q => h (q k hk)
 simp only [validTrm, validExps, this, Bool.and_false, Bool.false_and]
theorem vt_last {t : Trm} {vars : Int} (h1 : validB t.s t.xs = true) (h2 : t.xs.length ≠ 0) (h3 : (t.es.length : Int) = vars) (h4 : ExpsIn t.es) : validTrm t vars = decide (sumI t.es ≤ 120) := by
 have : decide (∀ k, k < t.es.length → 0 ≤ t.es.getD k 0 ∧ t.es.getD k 0 ≤ 120) = true := decide_eq_true h4
 have e : decide (t.xs ≠ []) = true := decide_eq_true fun q => h2 (by rw [q]; rfl)
 simp only [validTrm, validExps, this, h1, e, decide_eq_true h3, Bool.true_and, Bool.and_true]
theorem vt_exps {t : Trm} {vars : Int} (h : validTrm t vars = true) : ExpsIn t.es ∧ (t.es.length : Int) = vars := by
 simp only [validTrm, validExps, Bool.and_eq_true, decide_eq_true_eq] at h
 exact ⟨h.2.1.2, h.2.1.1⟩
set_option maxHeartbeats 4000000 in
theorem validTerm_c (s : Bool) (A : Option Addr) (n c : Nat) (xs : List Nat) (B : Option Addr) (m d : Nat) (es : List Int) (vars : Int) (w : World) (h : Rd w A n xs) (h' : RdI w B m es) (hv : vars ≤ 1000000) :
 Calls Tryz.prog 111 #[aggT s A n c B m d, .int .i64 vars] w (RetB (validTrm ⟨s, xs, es⟩ vars) w) := by
 have k0 := bel_alloc w (boxT s A n c B m d)
 have P := Lib.hid k0
 have R1 := Lib.hid (h.below k0)
 have R2 := Lib.hid (h'.below k0)
 have X := Lib.hid (BxT.new w s A n c B m d)
 have HL := Lib.hid (And.intro h.len h'.len)
 have HV := Lib.hid hv
 clear h h' hv k0
 go_enter Tryz.func111, Tryz.ntmps111
 go_upto_region 1 with (fail)
 generalize w.alloc (boxT s A n c B m d) = W0 at P R1 R2 X ⊢
 obtain ⟨g, hg⟩ : ∃ g, g = w.heap.size := ⟨_, rfl⟩
 rw [← hg] at X ⊢
 clear hg
 have a0 := X.out.c0
 have a1 := X.out.c1
 go_wp2_with fail
 refine (valid_c s A n c xs _ R1.out).mono ?_
 rintro e w1 ⟨rfl, hb⟩
 replace P := Lib.hid (P.out.trans (hb.mono P.out.size))
 replace R2 := Lib.hid (R2.out.below hb)
 replace X := Lib.hid (X.out.next hb)
 clear hb a0 a1 R1
 obtain ⟨v, hvv⟩ : ∃ v, v = validB s xs := ⟨_, rfl⟩
 rw [← hvv]
 have HVB := Lib.hid hvv
 clear hvv
 cases v with
 | false =>
   have HF := Lib.hid (vt_false1 (t := ⟨s, xs, es⟩) (vars := vars) HVB.out.symm)
   go_wp2
   go_ret
   exact ⟨by rw [HF.out] <;> rfl, P.out⟩
 | true =>
   have a0 := X.out.c0
   have a1 := X.out.c1
   go_wp2_with fail
   refine (czero_c s A n c _).mono ?_
   rintro e w2 ⟨rfl, hb⟩
   replace P := Lib.hid (P.out.trans (hb.mono P.out.size))
   replace R2 := Lib.hid (R2.out.below hb)
   replace X := Lib.hid (X.out.next hb)
   clear hb a0 a1
   by_cases hn : n = 0
   · rw [decide_eq_true hn]
     have HF := Lib.hid (vt_false2 (t := ⟨s, xs, es⟩) (vars := vars) (HL.out.1.trans hn))
     clear hn
     go_wp2
     go_ret
     exact ⟨by rw [HF.out] <;> rfl, P.out⟩
   · rw [decide_eq_false hn]
     have HN := Lib.hid hn
     clear hn
     have a2 := X.out.c2
     by_cases hm : (m : Int) = vars
     · have t0 : ((m : Int) != vars) = false := by rw [hm]; exact bne_self_eq_false _
       have HM := Lib.hid hm
       clear hm
       go_wp2
       skip
       go_loopw [5, 27] (fun v5 v wr => ∃ k : Nat, v = .int .i64 (k : Int) ∧ v5 = .int .i64 (sumI (es.take k)) ∧ k ≤ m ∧ Below w.heap.size w wr ∧ BxT wr g s A n c B m d ∧ RdI wr B m es ∧ ∀ i, i < k → 0 ≤ es.getD i 0 ∧ es.getD i 0 ≤ 120) (fun _ v _ => m - (intOf v).toNat)
       case atStart => exact ⟨0, rfl, rfl, Nat.zero_le _, P.out, X.out, R2.out, fun i hi => absurd hi (by omega)⟩
       case round =>
        skip
        obtain ⟨k, rfl, rfl, hk, hp, hx, hr, hall⟩ := hrel
        clear P X R2 a2
        have hvm := HV.out
        have hmm := HM.out
        have P := Lib.hid hp
        have X := Lib.hid hx
        have R2 := Lib.hid hr
        have HA := Lib.hid hall
        have a2 := hx.c2
        clear hp hx hr hall
        by_cases hkm : k < m
        · have t1 : decide ((k : Int) < (m : Int)) = true := decide_eq_true (by omega)
          have t1v : decide ((k : Int) < vars) = true := decide_eq_true (by omega)
          have t1n : decide (k < m) = true := decide_eq_true hkm
          have hkI : (k : Int) < (m : Int) := by omega
          obtain ⟨b, o, rfl, hblt, hcell⟩ := R2.out.at_ (by omega)
          have c0 := hcell k hkm
          have hz1 : 0 ≤ es.getD k 0 → es.getD k 0 ≤ 120 → (es.getD k 0) + 0 ≤ 120 := by omega
          have HS := Lib.hid (sumI_take es k (by rw [HL.out.2]; exact hkm))
          have hbd : 0 ≤ sumI (es.take k) ∧ sumI (es.take k) ≤ 120 * k := by
           have hq := sumI_bound (es.take k) (fun i hi => by
            rw [List.length_take] at hi
            have e : (es.take k).getD i 0 = es.getD i 0 := by simp [List.getD_eq_getElem?_getD, show i < k by omega]
            rw [e]
            exact HA.out i (by omega)) k
           have hl := HL.out.2
           have e2 : (es.take k).take k = es.take k := List.take_of_length_le (by simp; omega)
           rw [e2] at hq
           exact hq (by simp; omega)
          generalize sumI (es.take k) = sv at HS hbd ⊢
          obtain ⟨z, hz⟩ : ∃ z, z = es.getD k 0 := ⟨_, rfl⟩
          rw [← hz] at c0 hz1 HS
          have HZ := Lib.hid hz
          clear hcell hz
          by_cases z0 : z < 0
          · have t2 : decide (z < 0) = true := decide_eq_true z0
            have HF := Lib.hid (vt_false4 (t := ⟨s, xs, es⟩) (vars := vars) (k := k) (by show k < es.length; rw [HL.out.2]; exact hkm) (by show ¬ (0 ≤ es.getD k 0 ∧ _); rw [← HZ.out]; omega))
            go_wp2
            go_ret
            exact ⟨by rw [HF.out] <;> rfl, P.out⟩
          · have t2 : decide (z < 0) = false := decide_eq_false z0
            by_cases z1 : 120 < z
            · have t3 : decide (120 < z) = true := decide_eq_true z1
              have HF := Lib.hid (vt_false4 (t := ⟨s, xs, es⟩) (vars := vars) (k := k) (by show k < es.length; rw [HL.out.2]; exact hkm) (by show ¬ (0 ≤ es.getD k 0 ∧ es.getD k 0 ≤ 120); rw [← HZ.out]; omega))
              go_wp2
              go_ret
              exact ⟨by rw [HF.out] <;> rfl, P.out⟩
            · have t3 : decide (120 < z) = false := decide_eq_false z1
              go_wp2
              go_roundw
              case measure => simp [intOf]; omega
              case rel => exact ⟨k + 1, by go_num, (by rw [HS.out] <;> (try go_num)), by omega, P.out, X.out, R2.out, fun i hi => by
               by_cases e : i = k
               · subst e; rw [← HZ.out]; omega
               · exact HA.out i (by omega)⟩
        · have t1 : decide ((k : Int) < (m : Int)) = false := decide_eq_false (by omega)
          have t1v : decide ((k : Int) < vars) = false := decide_eq_false (by omega)
          have t1n : decide (k < m) = false := decide_eq_false hkm
          have HE := Lib.hid (show ExpsIn es from fun i hi => HA.out i (by rw [HL.out.2] at hi; omega))
          have HF := Lib.hid (vt_last (t := ⟨s, xs, es⟩) (vars := vars) HVB.out.symm (by show ¬ xs.length = 0; rw [HL.out.1]; exact HN.out) (by show (es.length : Int) = vars; rw [HL.out.2]; exact HM.out) HE.out)
          have HT := Lib.hid (show es.take k = es from List.take_of_length_le (by rw [HL.out.2]; omega))
          rw [HT.out]
          by_cases hs : sumI es ≤ 120
          · have t4 : decide (sumI es ≤ 120) = true := decide_eq_true hs
            rw [t4] at HF
            go_wp2
            go_ret
            exact ⟨by rw [HF.out] <;> rfl, P.out⟩
          · have t4 : decide (sumI es ≤ 120) = false := decide_eq_false hs
            rw [t4] at HF
            go_wp2
            go_ret
            exact ⟨by rw [HF.out] <;> rfl, P.out⟩
     · have t0 : ((m : Int) != vars) = true := by rw [bne_iff_ne]; exact hm
       have HF := Lib.hid (vt_false3 (t := ⟨s, xs, es⟩) (vars := vars) (by show (es.length : Int) ≠ vars; rw [HL.out.2]; exact hm))
       clear hm
       go_wp2
       go_ret
       exact ⟨by rw [HF.out] <;> rfl, P.out⟩
set_option maxHeartbeats 4000000 in
theorem refTerm_c (s : Bool) (A : Option Addr) (n c : Nat) (xs : List Nat) (B : Option Addr) (m d : Nat) (es : List Int) (vars : Int) (w : World) (h : Rd w A n xs) (h' : RdI w B m es) (hv : vars ≤ 1000000) :
 Calls Tryz.prog 103 #[aggT s A n c B m d, .int .i64 vars] w (RetB (validTrm ⟨s, xs, es⟩ vars) w) := by
 have k0 := bel_alloc w (boxT s A n c B m d)
 have P := Lib.hid k0
 have R1 := Lib.hid (h.below k0)
 have R2 := Lib.hid (h'.below k0)
 have X := Lib.hid (BxT.new w s A n c B m d)
 have HL := Lib.hid (And.intro h.len h'.len)
 have HV := Lib.hid hv
 clear h h' hv k0
 go_enter Tryz.func103, Tryz.ntmps103
 go_upto_region 1 with (fail)
 generalize w.alloc (boxT s A n c B m d) = W0 at P R1 R2 X ⊢
 obtain ⟨g, hg⟩ : ∃ g, g = w.heap.size := ⟨_, rfl⟩
 rw [← hg] at X ⊢
 clear hg
 have a0 := X.out.c0
 have a1 := X.out.c1
 go_wp2_with fail
 refine (refValid_c s A n c xs _ R1.out).mono ?_
 rintro e w1 ⟨rfl, hb⟩
 replace P := Lib.hid (P.out.trans (hb.mono P.out.size))
 replace R2 := Lib.hid (R2.out.below hb)
 replace X := Lib.hid (X.out.next hb)
 clear hb a0 a1 R1
 obtain ⟨v, hvv⟩ : ∃ v, v = validB s xs := ⟨_, rfl⟩
 rw [← hvv]
 have HVB := Lib.hid hvv
 clear hvv
 cases v with
 | false =>
   have HF := Lib.hid (vt_false1 (t := ⟨s, xs, es⟩) (vars := vars) HVB.out.symm)
   go_wp2
   go_ret
   exact ⟨by rw [HF.out] <;> rfl, P.out⟩
 | true =>
   have a0 := X.out.c0
   have a1 := X.out.c1
   go_wp2_with fail
   refine (zero_c s A n c _).mono ?_
   rintro e w2 ⟨rfl, hb⟩
   replace P := Lib.hid (P.out.trans (hb.mono P.out.size))
   replace R2 := Lib.hid (R2.out.below hb)
   replace X := Lib.hid (X.out.next hb)
   clear hb a0 a1
   by_cases hn : n = 0
   · rw [decide_eq_true hn]
     have HF := Lib.hid (vt_false2 (t := ⟨s, xs, es⟩) (vars := vars) (HL.out.1.trans hn))
     clear hn
     go_wp2
     go_ret
     exact ⟨by rw [HF.out] <;> rfl, P.out⟩
   · rw [decide_eq_false hn]
     have HN := Lib.hid hn
     clear hn
     have a2 := X.out.c2
     by_cases hm : (m : Int) = vars
     · have t0 : ((m : Int) != vars) = false := by rw [hm]; exact bne_self_eq_false _
       have HM := Lib.hid hm
       clear hm
       go_wp2
       skip
       go_loopw [5] (fun v wr => ∃ k : Nat, v = .int .i64 (k : Int) ∧ k ≤ m ∧ Below w.heap.size w wr ∧ BxT wr g s A n c B m d ∧ RdI wr B m es ∧ ∀ i, i < k → 0 ≤ es.getD i 0 ∧ es.getD i 0 ≤ 120) (fun v _ => m - (intOf v).toNat)
       case atStart => exact ⟨0, rfl, Nat.zero_le _, P.out, X.out, R2.out, fun i hi => absurd hi (by omega)⟩
       case round =>
        skip
        obtain ⟨k, rfl, hk, hp, hx, hr, hall⟩ := hrel
        clear P X R2 a2
        have hvm := HV.out
        have hmm := HM.out
        have P := Lib.hid hp
        have X := Lib.hid hx
        have R2 := Lib.hid hr
        have HA := Lib.hid hall
        have a2 := hx.c2
        clear hp hx hr hall
        by_cases hkm : k < m
        · have t1 : decide ((k : Int) < (m : Int)) = true := decide_eq_true (by omega)
          have t1v : decide ((k : Int) < vars) = true := decide_eq_true (by omega)
          have t1n : decide (k < m) = true := decide_eq_true hkm
          have hkI : (k : Int) < (m : Int) := by omega
          obtain ⟨b, o, rfl, hblt, hcell⟩ := R2.out.at_ (by omega)
          have c0 := hcell k hkm
          skip
          obtain ⟨z, hz⟩ : ∃ z, z = es.getD k 0 := ⟨_, rfl⟩
          rw [← hz] at c0
          have HZ := Lib.hid hz
          clear hcell hz
          by_cases z0 : z < 0
          · have t2 : decide (z < 0) = true := decide_eq_true z0
            have HF := Lib.hid (vt_false4 (t := ⟨s, xs, es⟩) (vars := vars) (k := k) (by show k < es.length; rw [HL.out.2]; exact hkm) (by show ¬ (0 ≤ es.getD k 0 ∧ _); rw [← HZ.out]; omega))
            go_wp2
            go_ret
            exact ⟨by rw [HF.out] <;> rfl, P.out⟩
          · have t2 : decide (z < 0) = false := decide_eq_false z0
            by_cases z1 : 120 < z
            · have t3 : decide (120 < z) = true := decide_eq_true z1
              have HF := Lib.hid (vt_false4 (t := ⟨s, xs, es⟩) (vars := vars) (k := k) (by show k < es.length; rw [HL.out.2]; exact hkm) (by show ¬ (0 ≤ es.getD k 0 ∧ es.getD k 0 ≤ 120); rw [← HZ.out]; omega))
              go_wp2
              go_ret
              exact ⟨by rw [HF.out] <;> rfl, P.out⟩
            · have t3 : decide (120 < z) = false := decide_eq_false z1
              go_wp2
              go_roundw
              case measure => simp [intOf]; omega
              case rel => exact ⟨k + 1, by go_num, by omega, P.out, X.out, R2.out, fun i hi => by
               by_cases e : i = k
               · subst e; rw [← HZ.out]; omega
               · exact HA.out i (by omega)⟩
        · have t1 : decide ((k : Int) < (m : Int)) = false := decide_eq_false (by omega)
          have t1v : decide ((k : Int) < vars) = false := decide_eq_false (by omega)
          have t1n : decide (k < m) = false := decide_eq_false hkm
          have HE := Lib.hid (show ExpsIn es from fun i hi => HA.out i (by rw [HL.out.2] at hi; omega))
          have HF := Lib.hid (vt_last (t := ⟨s, xs, es⟩) (vars := vars) HVB.out.symm (by show ¬ xs.length = 0; rw [HL.out.1]; exact HN.out) (by show (es.length : Int) = vars; rw [HL.out.2]; exact HM.out) HE.out)
          go_wp2_with fail
          refine (refDegree_c B m d es _ R2.out HE.out (by omega)).mono ?_
          rintro e w3 ⟨rfl, hw⟩
          subst hw
          by_cases hs : sumI es ≤ 120
          · have t4 : decide (sumI es ≤ 120) = true := decide_eq_true hs
            rw [t4] at HF
            go_wp2
            go_ret
            exact ⟨by rw [HF.out] <;> rfl, P.out⟩
          · have t4 : decide (sumI es ≤ 120) = false := decide_eq_false hs
            rw [t4] at HF
            go_wp2
            go_ret
            exact ⟨by rw [HF.out] <;> rfl, P.out⟩
     · have t0 : ((m : Int) != vars) = true := by rw [bne_iff_ne]; exact hm
       have HF := Lib.hid (vt_false3 (t := ⟨s, xs, es⟩) (vars := vars) (by show (es.length : Int) ≠ vars; rw [HL.out.2]; exact hm))
       clear hm
       go_wp2
       go_ret
       exact ⟨by rw [HF.out] <;> rfl, P.out⟩
end Go.Proofs.YteabokkofoomkaaGreat

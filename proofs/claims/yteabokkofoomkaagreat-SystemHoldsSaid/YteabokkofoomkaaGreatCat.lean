import Derived.Test.YteabokkofoomkaaGreatCas
import Derived.Test.YteabokkofoomkaaGreatCao
import Derived.Test.YteabokkofoomkaaGreatCab
import Derived.Deep.QuietTactic
import Derived.BigQuiet
import Derived.Deep.Slices
set_option maxRecDepth 100000
namespace Go.Proofs.YteabokkofoomkaaGreat
open Go.RowKit Go.Shelf Go.Deep
def loadT (t : Trm) (ns : List Nmr) : Nat → Nat
 | 0 => t.xs.length + 1
 | k + 1 => loadT t ns k + (t.es.getD k 0).toNat * (nmAt ns k).xs.length
def mostT (ts : List Trm) (ns : List Nmr) : Nat → Nat
 | 0 => 0
 | k + 1 => max (mostT ts ns k) (loadT (trmAt ts k) ns (trmAt ts k).es.length)
def loadP (ts : List Trm) (ns : List Nmr) : Nat := mostT ts ns ts.length
theorem raw_le {s : Bool} {xs : List Nat} (h : validB s xs = true) : xs.length ≤ 4096 := by
 unfold validB at h
 split at h
 · omega
 · simp at h; omega
set_option maxHeartbeats 8000000 in
theorem refLoad_c (V : Int) (A : Option Addr) (n c : Nat) (ts : List Trm) (C : Option Addr) (m cd : Nat) (ns : List Nmr) (w : World) (h : RdT w A n ts) (h' : RdN w C m ns) (hv : validP V ts = true) (hm : (m : Int) = V) (hu : allB ns = true) :
 Calls Tryz.prog 30 #[aggP V A n c, .slice C m cd] w (fun e w' => e = .returned (.int .i64 (loadP ts ns : Int)) ∧ Below w.heap.size w w') := by
 have HI := Lib.hid (And.intro h h')
 have HV := Lib.hid hv
 have HU := Lib.hid hu
 have HMV := Lib.hid hm
 have HBD := Lib.hid (vp_bounds hv)
 have HL := Lib.hid (And.intro h.len h'.len)
 have P := Lib.hid (bel_alloc w (boxP V A n c))
 have X := Lib.hid (BxP.new w V A n c)
 clear h h' hv hm hu
 go_enter Tryz.func30, Tryz.ntmps30
 go_wp2
 generalize w.alloc (boxP V A n c) = W0 at P X ⊢
 obtain ⟨g, hg⟩ : ∃ g, g = w.heap.size := ⟨_, rfl⟩
 rw [← hg] at X ⊢
 clear hg
 go_loopw [5, 6] (fun v5 v wr => ∃ j : Nat, v = .int .i64 (j : Int) ∧ v5 = .int .i64 (mostT ts ns j : Int) ∧ mostT ts ns j ≤ 20000000 ∧ j ≤ n ∧ Below w.heap.size w wr ∧ BxP wr g V A n c) (fun _ v _ => n - (intOf v).toNat)
 case atStart => exact ⟨0, rfl, rfl, Nat.zero_le _, Nat.zero_le _, P.out, X.out⟩
 case round =>
  obtain ⟨j, rfl, rfl, hmost, hj, hP, hX⟩ := hrel
  clear P X
  have hnn : n ≤ 3000 := by have h1 := HBD.out.2.2; have h2 := HL.out.1; omega
  have P := Lib.hid hP
  have X := Lib.hid hX
  clear hP hX
  have a1 := X.out.c1
  by_cases hjn : j < n
  · have t1 : decide ((j : Int) < (n : Int)) = true := decide_eq_true (by omega)
    have t1n : decide (j < n) = true := decide_eq_true hjn
    have hjI : (j : Int) < (n : Int) := by omega
    obtain ⟨bT, oT, rfl, hblt, hcell⟩ := HI.out.1.at_ (by omega)
    obtain ⟨A1, n1, c1, B1, m1, d1, hT0⟩ := hcell j hjn
    have T0 := Lib.hid (TrA.mk hblt hT0)
    have HVT := Lib.hid (vp_at HV.out (k := j) (by rw [HL.out.1]; exact hjn))
    have HMS := Lib.hid (show mostT ts ns (j + 1) = max (mostT ts ns j) (loadT (trmAt ts j) ns (trmAt ts j).es.length) from rfl)
    obtain ⟨tt, htt⟩ : ∃ t, t = trmAt ts j := ⟨_, rfl⟩
    rw [← htt] at T0 HVT HMS
    clear hcell hT0 htt hblt
    obtain ⟨s, xs, es⟩ := tt
    obtain ⟨he, hlen⟩ := vt_exps HVT.out
    obtain rfl : m = m1 := by
     have e1 := T0.out.is.ri.len
     have e2 := HMV.out
     dsimp only at e1 hlen
     omega
    obtain ⟨hvb, -⟩ := vt_coef HVT.out
    have HLE := Lib.hid (show es.length = m from T0.out.is.ri.len)
    have HEI := Lib.hid he
    have HN1 := Lib.hid (show xs.length = n1 ∧ n1 ≤ 4096 from ⟨T0.out.is.rd.len, by have e1 := T0.out.is.rd.len; have e2 := raw_le hvb; dsimp only at e1 e2; omega⟩)
    clear he hlen hvb
    have TW := Lib.hid (T0.out.next P.out)
    have c1' := TW.out.is.c1
    have hn1 := HN1.out.2
    go_wp2
    clear c1' a1 t1 t1n
    have HL0 := Lib.hid (show ((n1 : Int) + 1) = (loadT ⟨s, xs, es⟩ ns 0 : Int) by show _ = ((xs.length + 1 : Nat) : Int); rw [HN1.out.1]; rfl)
    clear TW hn1
    go_loopw [7, 8] (fun v7 v wr => ∃ k : Nat, v = .int .i64 (k : Int) ∧ v7 = .int .i64 (loadT ⟨s, xs, es⟩ ns k : Int) ∧ loadT ⟨s, xs, es⟩ ns k ≤ 4097 + k * 491520 ∧ k ≤ m ∧ Below w.heap.size w wr ∧ BxP wr g V (some ⟨bT, oT, none⟩) n c) (fun _ v _ => m - (intOf v).toNat)
    case atStart => exact ⟨0, rfl, by rw [← HL0.out], by show xs.length + 1 ≤ _; have := HN1.out; omega, Nat.zero_le _, P.out, X.out⟩
    case round =>
     obtain ⟨k, rfl, rfl, hld, hk, hP, hX⟩ := hrel
     clear P X
     have hmm : m ≤ 32 := by have h1 := HBD.out.2.1; have h2 := HMV.out; omega
     have P := Lib.hid hP
     have X := Lib.hid hX
     clear hP hX
     have a0 := X.out.c0
     by_cases hkm : k < m
     · have t1 : decide ((k : Int) < V) = true := decide_eq_true (by have := HMV.out; omega)
       have hkI : (k : Int) < (m : Int) := by omega
       obtain ⟨bN, oN, rfl, hltN, hcN⟩ := HI.out.2.at_ (by omega)
       obtain ⟨A2, n2, c2, hN⟩ := hcN k hkm
       have N0 := Lib.hid (NmA.mk hltN hN)
       have HVN := Lib.hid (show validB (nmAt ns k).s (nmAt ns k).xs = true by have := HU.out; simp only [allB, decide_eq_true_eq] at this; exact this k (by rw [HL.out.2]; exact hkm))
       have HN2 := Lib.hid (show (nmAt ns k).xs.length = n2 ∧ n2 ≤ 4096 from ⟨N0.out.is.rd.len, by have e1 := N0.out.is.rd.len; have e2 := raw_le HVN.out; omega⟩)
       have HPS := Lib.hid (show loadT ⟨s, xs, es⟩ ns (k + 1) = loadT ⟨s, xs, es⟩ ns k + (es.getD k 0).toNat * (nmAt ns k).xs.length from rfl)
       obtain ⟨bE, oE, hBE, hltE, hcE⟩ := T0.out.is.ri.at_ (by omega)
       have HCE := Lib.hid (And.intro hltE (hcE k hkm))
       dsimp only at HCE
       obtain ⟨x, hx⟩ := Int.eq_ofNat_of_zero_le (HEI.out k (by show k < es.length; rw [HLE.out]; exact hkm)).1
       have HX := Lib.hid (show x ≤ 120 by have := (HEI.out k (by show k < es.length; rw [HLE.out]; exact hkm)).2; omega)
       rw [hx] at HCE
       rw [hx, show ((x : Int)).toNat = x from Int.toNat_natCast x, HN2.out.1] at HPS
       obtain ⟨pr, hpr⟩ : ∃ q, q = x * n2 := ⟨_, rfl⟩
       have hprb : pr ≤ 491520 := by rw [hpr]; exact Nat.le_trans (Nat.mul_le_mul HX.out HN2.out.2) (by decide)
       have epr : (x : Int) * (n2 : Int) = (pr : Int) := by rw [hpr]; exact (Int.natCast_mul x n2).symm
       rw [← hpr] at HPS
       obtain ⟨ld, hldv⟩ : ∃ q, q = loadT ⟨s, xs, es⟩ ns k := ⟨_, rfl⟩
       rw [← hldv] at HPS hld ⊢
       have wm : IntKind.i64.wrap (pr : Int) = (pr : Int) := IntWalk.i64_in _ (by omega)
       have wa : IntKind.i64.wrap ((ld : Int) + (pr : Int)) = (ld : Int) + (pr : Int) := IntWalk.i64_in _ (by omega)
       clear hpr hldv
       subst hBE
       clear hcN hN hltN hcE hltE hx
       have TW := Lib.hid (T0.out.next P.out)
       have NW := Lib.hid (N0.out.next P.out)
       have b2 := TW.out.is.c2
       have a1 := X.out.c1
       have d1' := NW.out.is.c1
       have c0 := (P.out.cell (p := ⟨bE, oE + k, none⟩) HCE.out.1).trans HCE.out.2
       go_upto_region 9 with (fail)
       go_quiet (fail)
       have hdr := below_drewN (Below.refl wr.heap.size wr) nq
       replace P := Lib.hid (P.out.trans (hdr.mono P.out.size))
       replace X := Lib.hid (X.out.next hdr)
       clear b2 a1 a0 d1' c0 hdr t1 TW NW
       generalize wr.drewN nq = W1 at P X ⊢
       go_wp2
       go_roundw
       case measure => simp [intOf]; omega
       case rel => exact ⟨k + 1, by go_num, (by rw [HPS.out] <;> (try go_num)), by rw [HPS.out]; omega, by omega, P.out, X.out⟩
     · have t1 : decide ((k : Int) < V) = false := decide_eq_false (by have := HMV.out; omega)
       obtain rfl : k = es.length := by rw [HLE.out]; omega
       obtain ⟨lv, hlv⟩ : ∃ q, q = loadT ⟨s, xs, es⟩ ns es.length := ⟨_, rfl⟩
       obtain ⟨mv, hmv⟩ : ∃ q, q = mostT ts ns j := ⟨_, rfl⟩
       have HMX := Lib.hid (show mostT ts ns (j + 1) = max mv lv by rw [HMS.out, hmv, hlv])
       have hlb : lv ≤ 20000000 := by rw [← hlv] at hld; omega
       rw [← hlv] at hld ⊢
       rw [← hmv] at hmost ⊢
       clear hlv hmv
       by_cases hmx : mv ≤ lv
       · have HM2 := Lib.hid (show mostT ts ns (j + 1) = lv by rw [HMX.out]; omega)
         have u1 : ((mv : Int) ≤ (lv : Int)) := by omega
         have u2 : max (mv : Int) (lv : Int) = (lv : Int) := by omega
         go_wp2
         go_roundw
         case measure => simp [intOf]; omega
         case rel => exact ⟨j + 1, by go_num, by rw [HM2.out]; exact congrArg (Value.int IntKind.i64) (by split <;> omega), by rw [HM2.out]; exact hlb, by omega, P.out, X.out⟩
       · have HM2 := Lib.hid (show mostT ts ns (j + 1) = mv by rw [HMX.out]; omega)
         have u1 : ¬ ((mv : Int) ≤ (lv : Int)) := by omega
         have u2 : max (mv : Int) (lv : Int) = (mv : Int) := by omega
         go_wp2
         go_roundw
         case measure => simp [intOf]; omega
         case rel => exact ⟨j + 1, by go_num, by rw [HM2.out]; exact congrArg (Value.int IntKind.i64) (by split <;> omega), by rw [HM2.out]; exact hmost, by omega, P.out, X.out⟩
  · have t1 : decide ((j : Int) < (n : Int)) = false := decide_eq_false (by omega)
    have t1n : decide (j < n) = false := decide_eq_false hjn
    obtain rfl : j = ts.length := by rw [HL.out.1]; omega
    go_wp2
    go_ret
    exact ⟨rfl, P.out⟩
set_option maxHeartbeats 8000000 in
theorem refLoad_any (V : Int) (A : Option Addr) (n c : Nat) (ts : List Trm) (C : Option Addr) (m cd : Nat) (ns : List Nmr) (w : World) (h : RdT w A n ts) (h' : RdN w C m ns) (hv : validP V ts = true) (hm : (m : Int) = V) :
 Calls Tryz.prog 30 #[aggP V A n c, .slice C m cd] w (fun e w' => ∃ v : Int, e = .returned (.int .i64 v) ∧ Below w.heap.size w w') := by
 have HI := Lib.hid (And.intro h h')
 have HV := Lib.hid hv
 have HMV := Lib.hid hm
 have HBD := Lib.hid (vp_bounds hv)
 have HL := Lib.hid (And.intro h.len h'.len)
 have P := Lib.hid (bel_alloc w (boxP V A n c))
 have X := Lib.hid (BxP.new w V A n c)
 clear h h' hv hm
 go_enter Tryz.func30, Tryz.ntmps30
 go_wp2
 generalize w.alloc (boxP V A n c) = W0 at P X ⊢
 obtain ⟨g, hg⟩ : ∃ g, g = w.heap.size := ⟨_, rfl⟩
 rw [← hg] at X ⊢
 clear hg
 go_loopw [5, 6] (fun v5 v wr => ∃ j : Nat, v = .int .i64 (j : Int) ∧ (∃ v : Int, v5 = .int .i64 v) ∧ j ≤ n ∧ Below w.heap.size w wr ∧ BxP wr g V A n c) (fun _ v _ => n - (intOf v).toNat)
 case atStart => exact ⟨0, rfl, ⟨0, rfl⟩, Nat.zero_le _, P.out, X.out⟩
 case round =>
  obtain ⟨j, rfl, ⟨ov, rfl⟩, hj, hP, hX⟩ := hrel
  clear P X
  have hnn : n ≤ 3000 := by have h1 := HBD.out.2.2; have h2 := HL.out.1; omega
  have P := Lib.hid hP
  have X := Lib.hid hX
  clear hP hX
  have a1 := X.out.c1
  by_cases hjn : j < n
  · have t1 : decide ((j : Int) < (n : Int)) = true := decide_eq_true (by omega)
    have t1n : decide (j < n) = true := decide_eq_true hjn
    have hjI : (j : Int) < (n : Int) := by omega
    obtain ⟨bT, oT, rfl, hblt, hcell⟩ := HI.out.1.at_ (by omega)
    obtain ⟨A1, n1, c1, B1, m1, d1, hT0⟩ := hcell j hjn
    have T0 := Lib.hid (TrA.mk hblt hT0)
    have HVT := Lib.hid (vp_at HV.out (k := j) (by rw [HL.out.1]; exact hjn))
    have HMS := Lib.hid (show mostT ts ns (j + 1) = max (mostT ts ns j) (loadT (trmAt ts j) ns (trmAt ts j).es.length) from rfl)
    obtain ⟨tt, htt⟩ : ∃ t, t = trmAt ts j := ⟨_, rfl⟩
    rw [← htt] at T0 HVT HMS
    clear hcell hT0 htt hblt
    obtain ⟨s, xs, es⟩ := tt
    obtain ⟨he, hlen⟩ := vt_exps HVT.out
    obtain rfl : m = m1 := by
     have e1 := T0.out.is.ri.len
     have e2 := HMV.out
     dsimp only at e1 hlen
     omega
    obtain ⟨hvb, -⟩ := vt_coef HVT.out
    have HLE := Lib.hid (show es.length = m from T0.out.is.ri.len)
    have HEI := Lib.hid he
    have HN1 := Lib.hid (show xs.length = n1 ∧ n1 ≤ 4096 from ⟨T0.out.is.rd.len, by have e1 := T0.out.is.rd.len; have e2 := raw_le hvb; dsimp only at e1 e2; omega⟩)
    clear he hlen hvb
    have TW := Lib.hid (T0.out.next P.out)
    have c1' := TW.out.is.c1
    have hn1 := HN1.out.2
    go_wp2
    clear c1' a1 t1 t1n
    have HL0 := Lib.hid (show ((n1 : Int) + 1) = (loadT ⟨s, xs, es⟩ ns 0 : Int) by show _ = ((xs.length + 1 : Nat) : Int); rw [HN1.out.1]; rfl)
    clear TW hn1
    go_loopw [7, 8] (fun v7 v wr => ∃ k : Nat, v = .int .i64 (k : Int) ∧ (∃ v : Int, v7 = .int .i64 v) ∧ k ≤ m ∧ Below w.heap.size w wr ∧ BxP wr g V (some ⟨bT, oT, none⟩) n c) (fun _ v _ => m - (intOf v).toNat)
    case atStart => exact ⟨0, rfl, ⟨_, rfl⟩, Nat.zero_le _, P.out, X.out⟩
    case round =>
     obtain ⟨k, rfl, ⟨lv, rfl⟩, hk, hP, hX⟩ := hrel
     clear P X
     have hmm : m ≤ 32 := by have h1 := HBD.out.2.1; have h2 := HMV.out; omega
     have P := Lib.hid hP
     have X := Lib.hid hX
     clear hP hX
     have a0 := X.out.c0
     by_cases hkm : k < m
     · have t1 : decide ((k : Int) < V) = true := decide_eq_true (by have := HMV.out; omega)
       have hkI : (k : Int) < (m : Int) := by omega
       obtain ⟨bN, oN, rfl, hltN, hcN⟩ := HI.out.2.at_ (by omega)
       obtain ⟨A2, n2, c2, hN⟩ := hcN k hkm
       have N0 := Lib.hid (NmA.mk hltN hN)
       obtain ⟨bE, oE, hBE, hltE, hcE⟩ := T0.out.is.ri.at_ (by omega)
       have HCE := Lib.hid (And.intro hltE (hcE k hkm))
       dsimp only at HCE
       obtain ⟨x, hx⟩ := Int.eq_ofNat_of_zero_le (HEI.out k (by show k < es.length; rw [HLE.out]; exact hkm)).1
       have HX := Lib.hid (show x ≤ 120 by have := (HEI.out k (by show k < es.length; rw [HLE.out]; exact hkm)).2; omega)
       rw [hx] at HCE
       subst hBE
       clear hcN hN hltN hcE hltE hx
       have TW := Lib.hid (T0.out.next P.out)
       have NW := Lib.hid (N0.out.next P.out)
       have b2 := TW.out.is.c2
       have a1 := X.out.c1
       have d1' := NW.out.is.c1
       have c0 := (P.out.cell (p := ⟨bE, oE + k, none⟩) HCE.out.1).trans HCE.out.2
       go_upto_region 9 with (fail)
       go_quiet (fail)
       have hdr := below_drewN (Below.refl wr.heap.size wr) nq
       replace P := Lib.hid (P.out.trans (hdr.mono P.out.size))
       replace X := Lib.hid (X.out.next hdr)
       clear b2 a1 a0 d1' c0 hdr t1 TW NW
       generalize wr.drewN nq = W1 at P X ⊢
       go_wp2
       go_roundw
       case measure => simp [intOf]; omega
       case rel => exact ⟨k + 1, by go_num, ⟨_, rfl⟩, by omega, P.out, X.out⟩
     · have t1 : decide ((k : Int) < V) = false := decide_eq_false (by have := HMV.out; omega)
       obtain rfl : k = es.length := by rw [HLE.out]; omega
       by_cases hmx : ov ≤ lv
       · go_wp2
         go_roundw
         case measure => simp [intOf]; omega
         case rel => exact ⟨j + 1, by go_num, ⟨_, rfl⟩, by omega, P.out, X.out⟩
       · go_wp2
         go_roundw
         case measure => simp [intOf]; omega
         case rel => exact ⟨j + 1, by go_num, ⟨_, rfl⟩, by omega, P.out, X.out⟩
  · have t1 : decide ((j : Int) < (n : Int)) = false := decide_eq_false (by omega)
    have t1n : decide (j < n) = false := decide_eq_false hjn
    obtain rfl : j = ts.length := by rw [HL.out.1]; omega
    go_wp2
    go_ret
    exact ⟨_, rfl, P.out⟩
def degP (ts : List Trm) : Int := if ts.length = 0 then -1 else sumI (trmAt ts 0).es
theorem ordT_sum {a b : List Int} (h : ordT a b = 1) : sumI b ≤ sumI a := by
 unfold ordT at h
 by_cases h1 : sumI a < sumI b
 · rw [if_pos h1] at h; exact absurd h (by decide)
 · omega
theorem vp_sum {V : Int} {ts : List Trm} (h : validP V ts = true) : ∀ k, k < ts.length → sumI (trmAt ts k).es ≤ sumI (trmAt ts 0).es := by
 intro k
 induction k with
 | zero => intro _; exact Int.le_refl _
 | succ k ih =>
   intro hk
   simp only [validP, validPs, Bool.and_eq_true, decide_eq_true_eq] at h
   have h1 := (h.2 (k + 1) hk).2 (by omega)
   rw [Nat.add_sub_cancel] at h1
   exact Int.le_trans (ordT_sum h1) (ih (by omega))
theorem vt_sum0 {t : Trm} {V : Int} (h : validTrm t V = true) : 0 ≤ sumI t.es ∧ sumI t.es ≤ 120 := by
 have he := (vt_exps h).1
 have h1 := sumI_bound t.es he t.es.length (Nat.le_refl _)
 rw [List.take_of_length_le (Nat.le_refl _)] at h1
 simp only [validTrm, validExps, Bool.and_eq_true, decide_eq_true_eq] at h
 exact ⟨h1.1, h.2.2⟩
def degV (V : Int) (ts : List Trm) : Int := if validP V ts = true then degP ts else -1
set_option maxHeartbeats 2000000 in
theorem polyDegree_c (V : Int) (A : Option Addr) (n c : Nat) (ts : List Trm) (w : World) (h : RdT w A n ts) :
 Calls Tryz.prog 36 #[aggP V A n c] w fun e w' => e = .returned (.int .i64 (degV V ts)) ∧ Below w.heap.size w w' := by
 have HI := Lib.hid h
 have HL := Lib.hid h.len
 have P := Lib.hid (bel_alloc w (boxP V A n c))
 have X := Lib.hid (BxP.new w V A n c)
 clear h
 go_enter Tryz.func36, Tryz.ntmps36
 go_upto_region 1 with (fail)
 generalize w.alloc (boxP V A n c) = W0 at P X ⊢
 obtain ⟨g, hg⟩ : ∃ g, g = w.heap.size := ⟨_, rfl⟩
 rw [← hg] at X ⊢
 clear hg
 have a0 := X.out.c0
 have a1 := X.out.c1
 go_wp2_with fail
 refine (polyValid_c V A n c ts _ (HI.out.below P.out)).mono ?_
 rintro e w1 ⟨rfl, hb⟩
 replace P := Lib.hid (P.out.trans (hb.mono P.out.size))
 replace X := Lib.hid (X.out.next hb)
 clear hb a0 a1
 obtain ⟨v, hv⟩ : ∃ v, v = validP V ts := ⟨_, rfl⟩
 rw [← hv]
 have HV := Lib.hid hv
 clear hv
 cases v with
 | false =>
   have HF := Lib.hid (show degV V ts = -1 by unfold degV; rw [← HV.out]; rfl)
   go_wp2
   go_ret
   exact ⟨by rw [HF.out] <;> rfl, P.out⟩
 | true =>
   have HD := Lib.hid (show degV V ts = degP ts by unfold degV; rw [← HV.out]; rfl)
   have a1 := X.out.c1
   by_cases hn : n = 0
   · have t0 : ((n : Int) == 0) = true := by rw [hn]; rfl
     have HF := Lib.hid (show degV V ts = -1 by rw [HD.out]; unfold degP; rw [if_pos (by rw [HL.out]; exact hn)])
     clear hn
     go_wp2
     go_ret
     exact ⟨by rw [HF.out] <;> rfl, P.out⟩
   · have t0 : ((n : Int) == 0) = false := by rw [beq_eq_false_iff_ne]; omega
     have HF := Lib.hid (show degV V ts = sumI (trmAt ts 0).es by rw [HD.out]; unfold degP; rw [if_neg (by rw [HL.out]; exact hn)])
     obtain ⟨bT, oT, rfl, hblt, hcell⟩ := HI.out.at_ (by omega)
     obtain ⟨A1, n1, c1, B1, m1, d1, hT0⟩ := hcell 0 (by omega)
     have T0 := Lib.hid (TrA.mk hblt hT0)
     have HVT := Lib.hid (vp_at HV.out.symm (k := 0) (by rw [HL.out]; omega))
     have hn0 : (0 : Int) < (n : Int) := by omega
     have hn1 : 0 < n := by omega
     clear hcell hT0 hblt hn
     have TW := Lib.hid (T0.out.next P.out)
     have c2 := TW.out.is.c2
     rw [Nat.zero_mul, Nat.add_zero] at c2
     go_wp2_with fail
     refine (degree_c B1 m1 d1 (trmAt ts 0).es _ TW.out.is.ri (vt_exps HVT.out).1 (by have e1 := TW.out.is.ri.len; have e2 := (vt_exps HVT.out).2; have e3 := vp_bounds HV.out.symm; omega)).mono ?_
     rintro e w2 ⟨rfl, hw⟩
     subst hw
     go_wp2
     go_ret
     exact ⟨by rw [HF.out] <;> rfl, P.out⟩
set_option maxHeartbeats 2000000 in
theorem refPDegree_c (V : Int) (A : Option Addr) (n c : Nat) (ts : List Trm) (w : World) (h : RdT w A n ts) (hv : validP V ts = true) :
 Calls Tryz.prog 24 #[aggP V A n c] w fun e w' => e = .returned (.int .i64 (degP ts)) ∧ Below w.heap.size w w' := by
 have HI := Lib.hid h
 have HL := Lib.hid h.len
 have HV := Lib.hid hv
 have HBD := Lib.hid (vp_bounds hv)
 have P := Lib.hid (bel_alloc w (boxP V A n c))
 have X := Lib.hid (BxP.new w V A n c)
 clear h hv
 go_enter Tryz.func24, Tryz.ntmps24
 go_wp2
 generalize w.alloc (boxP V A n c) = W0 at P X ⊢
 obtain ⟨g, hg⟩ : ∃ g, g = w.heap.size := ⟨_, rfl⟩
 rw [← hg] at X ⊢
 clear hg
 go_loopw [3, 4] (fun v3 v wr => ∃ (j : Nat) (x : Int), v = .int .i64 (j : Int) ∧ v3 = .int .i64 x ∧ j ≤ n ∧ (j = 0 → x = -1) ∧ (0 < j → x = sumI (trmAt ts 0).es) ∧ Below w.heap.size w wr ∧ BxP wr g V A n c) (fun _ v _ => n - (intOf v).toNat)
 case atStart => exact ⟨0, -1, rfl, rfl, Nat.zero_le _, fun _ => rfl, fun h => absurd h (by omega), P.out, X.out⟩
 case round =>
  obtain ⟨j, x, rfl, rfl, hj, hx0, hx1, hP, hX⟩ := hrel
  clear P X
  have hnn : n ≤ 3000 := by have h1 := HBD.out.2.2; have h2 := HL.out; omega
  have P := Lib.hid hP
  have X := Lib.hid hX
  have HX := Lib.hid (And.intro hx0 hx1)
  clear hP hX hx0 hx1
  have a1 := X.out.c1
  by_cases hjn : j < n
  · have t1 : decide ((j : Int) < (n : Int)) = true := decide_eq_true (by omega)
    have t1n : decide (j < n) = true := decide_eq_true hjn
    have hjI : (j : Int) < (n : Int) := by omega
    obtain ⟨bT, oT, rfl, hblt, hcell⟩ := HI.out.at_ (by omega)
    obtain ⟨A1, n1, c1, B1, m1, d1, hT0⟩ := hcell j hjn
    have T0 := Lib.hid (TrA.mk hblt hT0)
    have HVT := Lib.hid (vp_at HV.out (k := j) (by rw [HL.out]; exact hjn))
    clear hcell hT0 hblt
    have TW := Lib.hid (T0.out.next P.out)
    have c2 := TW.out.is.c2
    have HS := Lib.hid (show 0 ≤ sumI (trmAt ts j).es ∧ sumI (trmAt ts j).es ≤ sumI (trmAt ts 0).es ∧ (j = 0 → sumI (trmAt ts j).es = sumI (trmAt ts 0).es) from ⟨(vt_sum0 HVT.out).1, vp_sum HV.out j (by rw [HL.out]; exact hjn), fun e => by rw [e]⟩)
    go_wp2_with fail
    refine (refDegree_c B1 m1 d1 (trmAt ts j).es _ TW.out.is.ri (vt_exps HVT.out).1 (by have e1 := TW.out.is.ri.len; have e2 := (vt_exps HVT.out).2; have e3 := HBD.out; omega)).mono ?_
    rintro e w2 ⟨rfl, hw⟩
    subst hw
    generalize sumI (trmAt ts j).es = y at HS ⊢
    obtain ⟨s0, hs0⟩ : ∃ q, q = sumI (trmAt ts 0).es := ⟨_, rfl⟩
    rw [← hs0] at HS HX
    by_cases hxy : x < y
    · have HY := Lib.hid (show y = s0 by rcases Nat.eq_zero_or_pos j with h0 | h0; · exact HS.out.2.2 h0
                                         · have := HX.out.2 h0; have := HS.out; omega)
      go_wp2
      go_roundw
      case measure => simp [intOf]; omega
      case rel => exact ⟨j + 1, s0, by go_num, congrArg (Value.int IntKind.i64) (by have := HY.out; first | (split <;> omega) | omega), by omega, fun h => absurd h (by omega), fun _ => hs0, P.out, X.out⟩
    · have HY := Lib.hid (show x = s0 by rcases Nat.eq_zero_or_pos j with h0 | h0; · have := HX.out.1 h0; have := HS.out; omega
                                         · exact HX.out.2 h0)
      go_wp2
      go_roundw
      case measure => simp [intOf]; omega
      case rel => exact ⟨j + 1, s0, by go_num, congrArg (Value.int IntKind.i64) (by have := HY.out; first | (split <;> omega) | omega), by omega, fun h => absurd h (by omega), fun _ => hs0, P.out, X.out⟩
  · have t1 : decide ((j : Int) < (n : Int)) = false := decide_eq_false (by omega)
    have t1n : decide (j < n) = false := decide_eq_false hjn
    have HF := Lib.hid (show degP ts = x by
     unfold degP
     by_cases h0 : ts.length = 0
     · rw [if_pos h0]; exact (HX.out.1 (by have := HL.out; omega)).symm
     · rw [if_neg h0]; exact (HX.out.2 (by have := HL.out; omega)).symm)
    go_wp2
    go_ret
    exact ⟨by rw [HF.out] <;> rfl, P.out⟩
structure Ply where
 V : Int
 ts : List Trm
def plyAt (ps : List Ply) (k : Nat) : Ply := ps.getD k ⟨0, []⟩
structure PlyIs (w : World) (b o : Nat) (p : Ply) (A : Option Addr) (n c : Nat) : Prop where
 c0 : w.cell? ⟨b, o, none⟩ = some (.int .i64 p.V)
 c1 : w.cell? ⟨b, o + 1, none⟩ = some (.slice A n c)
 rt : RdT w A n p.ts
 nc : n ≤ c
 cm : c ≤ 9223372036854775807
theorem PlyIs.below {w w' : World} {b o : Nat} {p : Ply} {A : Option Addr} {n c : Nat} (h : PlyIs w b o p A n c) (hlt : b < w.heap.size) (hb : Below w.heap.size w w') : PlyIs w' b o p A n c :=
 ⟨(hb.cell (p := ⟨b, o, none⟩) hlt).trans h.c0, (hb.cell (p := ⟨b, o + 1, none⟩) hlt).trans h.c1, h.rt.below hb, h.nc, h.cm⟩
structure RdP (w : World) (A : Option Addr) (n : Nat) (ps : List Ply) : Prop where
 len : ps.length = n
 at_ : 0 < n → ∃ b o, A = some ⟨b, o, none⟩ ∧ b < w.heap.size ∧ ∀ k, k < n → ∃ A1 n1 c1, PlyIs w b (o + k * 2) (plyAt ps k) A1 n1 c1
theorem RdP.below {w w' : World} {A : Option Addr} {n : Nat} {ps : List Ply} (h : RdP w A n ps) (hb : Below w.heap.size w w') : RdP w' A n ps := by
 refine ⟨h.len, fun h0 => ?_⟩
 obtain ⟨b, o, e, hlt, hc⟩ := h.at_ h0
 refine ⟨b, o, e, Nat.lt_of_lt_of_le hlt hb.size, fun k hk => ?_⟩
 obtain ⟨A1, n1, c1, ht⟩ := hc k hk
 exact ⟨A1, n1, c1, ht.below hlt hb⟩
structure Lnk where
 kind : Int
 vs : List Int
 ps : List Ply
def lnkAt (ls : List Lnk) (k : Nat) : Lnk := ls.getD k ⟨0, [], []⟩
structure LnkIs (w : World) (b o : Nat) (l : Lnk) (B : Option Addr) (m d : Nat) (C : Option Addr) (p q : Nat) : Prop where
 c0 : w.cell? ⟨b, o, none⟩ = some (.int .i64 l.kind)
 c1 : w.cell? ⟨b, o + 1, none⟩ = some (.slice B m d)
 c2 : w.cell? ⟨b, o + 2, none⟩ = some (.slice C p q)
 ri : RdI w B m l.vs
 rp : RdP w C p l.ps
 md : m ≤ d
 dm : d ≤ 9223372036854775807
 pq : p ≤ q
 qm : q ≤ 9223372036854775807
theorem LnkIs.below {w w' : World} {b o : Nat} {l : Lnk} {B : Option Addr} {m d : Nat} {C : Option Addr} {p q : Nat} (h : LnkIs w b o l B m d C p q) (hlt : b < w.heap.size) (hb : Below w.heap.size w w') : LnkIs w' b o l B m d C p q :=
 ⟨(hb.cell (p := ⟨b, o, none⟩) hlt).trans h.c0, (hb.cell (p := ⟨b, o + 1, none⟩) hlt).trans h.c1, (hb.cell (p := ⟨b, o + 2, none⟩) hlt).trans h.c2, h.ri.below hb, h.rp.below hb, h.md, h.dm, h.pq, h.qm⟩
structure RdL (w : World) (A : Option Addr) (n : Nat) (ls : List Lnk) : Prop where
 len : ls.length = n
 at_ : 0 < n → ∃ b o, A = some ⟨b, o, none⟩ ∧ b < w.heap.size ∧ ∀ k, k < n → ∃ B1 m1 d1 C1 p1 q1, LnkIs w b (o + k * 3) (lnkAt ls k) B1 m1 d1 C1 p1 q1
theorem RdL.below {w w' : World} {A : Option Addr} {n : Nat} {ls : List Lnk} (h : RdL w A n ls) (hb : Below w.heap.size w w') : RdL w' A n ls := by
 refine ⟨h.len, fun h0 => ?_⟩
 obtain ⟨b, o, e, hlt, hc⟩ := h.at_ h0
 refine ⟨b, o, e, Nat.lt_of_lt_of_le hlt hb.size, fun k hk => ?_⟩
 obtain ⟨B1, m1, d1, C1, p1, q1, ht⟩ := hc k hk
 exact ⟨B1, m1, d1, C1, p1, q1, ht.below hlt hb⟩
def polysOf (kind : Int) : Int := if kind = 0 then 1 else if kind = 3 then 2 else 3
def needsOf (kind : Int) : Int := if kind = 0 then 1 else if kind = 1 ∨ kind = 2 then 3 else if kind = 3 then 2 else -1
theorem needs_polys {kind : Int} (h0 : 0 ≤ kind) (h1 : kind < 4) : needsOf kind = polysOf kind := by
 unfold needsOf polysOf
 have : kind = 0 ∨ kind = 1 ∨ kind = 2 ∨ kind = 3 := by omega
 rcases this with rfl | rfl | rfl | rfl <;> decide
set_option maxHeartbeats 1000000 in
theorem polys_c (kind : Int) (w : World) : Calls Tryz.prog 82 #[.int .i64 kind] w fun e w' => e = .returned (.int .i64 (polysOf kind)) ∧ w' = w := by
 by_cases h0 : kind = 0
 · have H := Lib.hid (show polysOf kind = 1 by unfold polysOf; rw [if_pos h0])
   have t0 : (kind == 0) = true := by rw [h0]; rfl
   clear h0
   go_enter Tryz.func82, Tryz.ntmps82
   go_wp2
   go_ret
   exact ⟨by rw [H.out] <;> rfl, rfl⟩
 · have t0 : (kind == 0) = false := by rw [beq_eq_false_iff_ne]; exact h0
   by_cases h3 : kind = 3
   · have H := Lib.hid (show polysOf kind = 2 by unfold polysOf; rw [if_neg h0, if_pos h3])
     have t3 : (kind == 3) = true := by rw [h3]; rfl
     clear h0 h3
     go_enter Tryz.func82, Tryz.ntmps82
     go_wp2
     go_ret
     exact ⟨by rw [H.out] <;> rfl, rfl⟩
   · have H := Lib.hid (show polysOf kind = 3 by unfold polysOf; rw [if_neg h0, if_neg h3])
     have t3 : (kind == 3) = false := by rw [beq_eq_false_iff_ne]; exact h3
     clear h0 h3
     go_enter Tryz.func82, Tryz.ntmps82
     go_wp2
     go_ret
     exact ⟨by rw [H.out] <;> rfl, rfl⟩
set_option maxHeartbeats 1000000 in
theorem needs_c (kind : Int) (w : World) : Calls Tryz.prog 85 #[.int .i64 kind] w fun e w' => e = .returned (.int .i64 (needsOf kind)) ∧ w' = w := by
 by_cases h0 : kind = 0
 · subst h0
   go_enter Tryz.func85, Tryz.ntmps85
   go_wp2
   go_ret
   exact ⟨rfl, rfl⟩
 · have t0 : (kind == 0) = false := by rw [beq_eq_false_iff_ne]; exact h0
   by_cases h1 : kind = 1
   · subst h1
     clear t0 h0
     go_enter Tryz.func85, Tryz.ntmps85
     go_wp2
     go_ret
     exact ⟨rfl, rfl⟩
   · by_cases h2 : kind = 2
     · subst h2
       clear t0 h0 h1
       go_enter Tryz.func85, Tryz.ntmps85
       go_wp2
       go_ret
       exact ⟨rfl, rfl⟩
     · by_cases h3 : kind = 3
       · subst h3
         clear t0 h0 h1 h2
         go_enter Tryz.func85, Tryz.ntmps85
         go_wp2
         go_ret
         exact ⟨rfl, rfl⟩
       · have t1 : (kind == 1) = false := by rw [beq_eq_false_iff_ne]; exact h1
         have t2 : (kind == 2) = false := by rw [beq_eq_false_iff_ne]; exact h2
         have t3 : (kind == 3) = false := by rw [beq_eq_false_iff_ne]; exact h3
         have H := Lib.hid (show needsOf kind = -1 by unfold needsOf; rw [if_neg h0, if_neg (by omega), if_neg h3])
         clear h0 h1 h2 h3
         go_enter Tryz.func85, Tryz.ntmps85
         go_wp2
         go_ret
         exact ⟨by rw [H.out] <;> rfl, rfl⟩
end Go.Proofs.YteabokkofoomkaaGreat
set_option maxRecDepth 100000
namespace Go.Proofs.YteabokkofoomkaaGreat
open Go.RowKit Go.ChangeShapes Go.WideShapes Go.ChangeAt Go.Deep
theorem cells_int9 : Tryz.prog.cellsOf 3 = 1 := by kernel_rfl
theorem cells_term9 : Tryz.prog.cellsOf 70 = 3 := by kernel_rfl
theorem cells_poly9 : Tryz.prog.cellsOf 45 = 2 := by kernel_rfl
theorem cells_link9 : Tryz.prog.cellsOf 51 = 3 := by kernel_rfl
theorem cells_system9 : Tryz.prog.cellsOf 24 = 2 := by kernel_rfl
theorem cells_ints9 : Tryz.prog.cellsOf 48 = 1 := by kernel_rfl
theorem cells_words9 : Tryz.prog.cellsOf 56 = 1 := by kernel_rfl
theorem cells_bool9 : Tryz.prog.cellsOf 4 = 1 := by kernel_rfl
theorem cells_terms9 : Tryz.prog.cellsOf 43 = 1 := by kernel_rfl
theorem cells_polys9 : Tryz.prog.cellsOf 49 = 1 := by kernel_rfl
theorem choose_list {X : Type} (d : X) {n : Nat} {p : Nat → X → Prop} (h : ∀ i, i < n → ∃ x, p i x) : ∃ xs : List X, xs.length = n ∧ ∀ i, i < n → p i (xs.getD i d) := by
 classical
 refine ⟨(List.range n).map fun i => if h' : i < n then (h i h').choose else d, by simp, fun i hi => ?_⟩
 rw [List.getD_eq_getElem?_getD, List.getElem?_map, List.getElem?_range hi]
 simp only [Option.map_some, Option.getD_some, dif_pos hi]
 exact (h i hi).choose_spec
section
variable {H : Type} {enc : TypeId × Value → H} {W : World} {base fuel : Nat} {spare : Nat → Bool} {held : Bool} {v : Value} {y : DataW H × List MemPlace}
theorem open_row {t e : TypeId} {k : Nat} (ht : Tryz.prog.underlying t = some (.slice e)) (hk : Tryz.prog.cellsOf e = k) (hk0 : 0 < k) (h : DataW.trod enc Tryz.prog W base spare held fuel t [v] = some y) :
 ∃ A n c, v = .slice A n c ∧ n ≤ c ∧ c ≤ 9223372036854775807 ∧ (0 < n → ∃ b o, A = some ⟨b, o, none⟩ ∧ b < W.heap.size ∧ ∀ i, i < n → ∃ cs fuel' y', cs.length = k ∧ (∀ j, j < k → W.cell? ⟨b, o + i * k + j, none⟩ = cs[j]?) ∧ DataW.trod enc Tryz.prog W base spare held fuel' e cs = some y') := by
 rcases open_slice ht h with ⟨hcs, _⟩ | ⟨a, len, cap, m, n, D, Pl, hcs, _, hl, hm, hmm, _, hi⟩
 · injection hcs with hv
   exact ⟨none, 0, 0, hv, Nat.le_refl _, by omega, fun h => absurd h (by omega)⟩
 · injection hcs with hv
   rw [hk] at hi
   have hlen : len ≤ m := by rw [hmm]; split <;> omega
   refine ⟨some a, len, cap, hv, hl, by simpa [maxLen] using hm, fun h0 => ?_⟩
   obtain ⟨cs0, hc0, _⟩ := hi 0 (by omega)
   obtain ⟨_, hl0, hat0⟩ := World.cells?_some hc0
   have c0 := hat0 0 hk0
   rw [List.getElem?_eq_getElem (show 0 < cs0.length by omega)] at c0
   obtain ⟨pa, hb⟩ := plain_of_cell c0
   rw [show (a.add (0 * k)).add 0 = a by rw [Nat.zero_mul]; rfl] at pa hb
   refine ⟨a.block, a.off, by rw [← pa], hb, fun i hin => ?_⟩
   obtain ⟨cs, hc, ht⟩ := hi i (by omega)
   obtain ⟨_, hl1, hat⟩ := World.cells?_some hc
   refine ⟨cs, n, _, hl1, fun j hj => ?_, ht⟩
   have ea : ∀ q, a.add q = ⟨a.block, a.off + q, none⟩ := fun q => by
    unfold Addr.add
    split
    · rename_i h1; subst h1; exact pa
    · rfl
   have e1 := hat j hj
   rw [Go.Deep.add_add, ea, ← Nat.add_assoc] at e1
   exact e1
theorem open_ints9 (h : DataW.trod enc Tryz.prog W base spare held fuel 48 [v] = some y) : ∃ A n c zs, v = .slice A n c ∧ RdI W A n zs ∧ n ≤ c ∧ c ≤ 9223372036854775807 := by
 obtain ⟨A, n, c, hv, hn, hc, hi⟩ := open_row Tryz.underlying48 cells_int9 (by decide) h
 rcases Nat.eq_zero_or_pos n with rfl | h0
 · exact ⟨A, 0, c, [], hv, RdI.nil _ _, hn, hc⟩
 obtain ⟨b, o, rfl, hb, hi⟩ := hi h0
 obtain ⟨zs, hl, hz⟩ := choose_list (X := Int) 0 (p := fun i z => W.cell? ⟨b, o + i, none⟩ = some (.int .i64 z)) (n := n) (fun i hin => by
  obtain ⟨cs, f', y', hl, hcs, ht⟩ := hi i hin
  match cs, hl with
  | [u], _ =>
    obtain ⟨z, e, _⟩ := DataW.trod_int Tryz.underlying3 ht
    injection e with e
    subst e
    refine ⟨z, ?_⟩
    have := hcs 0 (by omega)
    rwa [Nat.mul_one] at this)
 exact ⟨_, n, c, zs, hv, ⟨hl, fun _ => ⟨b, o, rfl, hb, hz⟩⟩, hn, hc⟩
theorem open_num9 {cs : List Value} (h : DataW.trod enc Tryz.prog W base spare held fuel 58 cs = some y) :
 ∃ s A n c xs, cs = [.bool s, .slice A n c] ∧ Rd W A n xs ∧ n ≤ c ∧ c ≤ 9223372036854775807 := by
 obtain ⟨y0, y1, n, _, hl, h0, h1⟩ := trod_struct2 Tryz.underlying58 h
 rw [cells_number] at hl
 match cs, hl with
 | [v0, v1], _ =>
   dsimp only at h0 h1
   rw [cells_bool9] at h0
   rw [cells_words9] at h1
   obtain ⟨s, e0, _⟩ := DataW.trod_bool Tryz.underlying4 h0
   obtain ⟨A, n, c, xs, e1, hr, hn, hc⟩ := open_words (v := v1) h1
   have e0' : [v0] = [Value.bool s] := e0
   injection e0' with e0'
   subst e0' e1
   exact ⟨s, A, n, c, xs, rfl, hr, hn, hc⟩
theorem open_term9 {cs : List Value} (h : DataW.trod enc Tryz.prog W base spare held fuel 70 cs = some y) :
 ∃ (t : Trm) (A : Option Addr) (n c : Nat) (B : Option Addr) (m d : Nat), cs = [.bool t.s, .slice A n c, .slice B m d] ∧ Rd W A n t.xs ∧ n ≤ c ∧ c ≤ 9223372036854775807 ∧ RdI W B m t.es ∧ m ≤ d ∧ d ≤ 9223372036854775807 := by
 obtain ⟨y0, y1, n, _, hl, h0, h1⟩ := trod_struct2 Tryz.underlying70 h
 rw [cells_term9] at hl
 match cs, hl with
 | [v0, v1, v2], _ =>
   dsimp only at h0 h1
   rw [cells_number] at h0
   rw [cells_ints9] at h1
   obtain ⟨s, A, n, c, xs, e0, hr, hn, hc⟩ := open_num9 h0
   obtain ⟨B, m, d, es, e1, hr1, hm, hd⟩ := open_ints9 (v := v2) h1
   have e0' : [v0, v1] = [Value.bool s, .slice A n c] := e0
   injection e0' with e2 e3
   injection e3 with e3
   subst e2 e3 e1
   exact ⟨⟨s, xs, es⟩, A, n, c, B, m, d, rfl, hr, hn, hc, hr1, hm, hd⟩
theorem open_terms9 (h : DataW.trod enc Tryz.prog W base spare held fuel 43 [v] = some y) : ∃ A n c ts, v = .slice A n c ∧ RdT W A n ts ∧ n ≤ c ∧ c ≤ 9223372036854775807 := by
 obtain ⟨A, n, c, hv, hn, hc, hi⟩ := open_row Tryz.underlying43 cells_term9 (by decide) h
 rcases Nat.eq_zero_or_pos n with rfl | h0
 · exact ⟨A, 0, c, [], hv, RdT.nil _ _, hn, hc⟩
 obtain ⟨b, o, rfl, hb, hi⟩ := hi h0
 obtain ⟨ts, hl, hz⟩ := choose_list (X := Trm) ⟨false, [], []⟩ (p := fun i t => ∃ A1 n1 c1 B1 m1 d1, TrmIs W b (o + i * 3) t A1 n1 c1 B1 m1 d1) (n := n) (fun i hin => by
  obtain ⟨cs, f', y', hl, hcs, ht⟩ := hi i hin
  obtain ⟨t, A1, n1, c1, B1, m1, d1, rfl, q1, q2, q3, q4, q5, q6⟩ := open_term9 ht
  exact ⟨t, A1, n1, c1, B1, m1, d1, hcs 0 (by omega), hcs 1 (by omega), hcs 2 (by omega), q1, q2, q3, q4, q5, q6⟩)
 exact ⟨_, n, c, ts, hv, ⟨hl, fun _ => ⟨b, o, rfl, hb, hz⟩⟩, hn, hc⟩
theorem open_nums9 (h : DataW.trod enc Tryz.prog W base spare held fuel 25 [v] = some y) : ∃ A n c ns, v = .slice A n c ∧ RdN W A n ns ∧ n ≤ c ∧ c ≤ 9223372036854775807 := by
 obtain ⟨A, n, c, hv, hn, hc, hi⟩ := open_row Tryz.underlying25 cells_number (by decide) h
 rcases Nat.eq_zero_or_pos n with rfl | h0
 · exact ⟨A, 0, c, [], hv, ⟨rfl, fun h => absurd h (by omega)⟩, hn, hc⟩
 obtain ⟨b, o, rfl, hb, hi⟩ := hi h0
 obtain ⟨ts, hl, hz⟩ := choose_list (X := Nmr) ⟨false, []⟩ (p := fun i t => ∃ A1 n1 c1, NmIs W b (o + i * 2) t A1 n1 c1) (n := n) (fun i hin => by
  obtain ⟨cs, f', y', hl, hcs, ht⟩ := hi i hin
  obtain ⟨s, A1, n1, c1, xs, rfl, q1, q2, q3⟩ := open_num9 ht
  exact ⟨⟨s, xs⟩, A1, n1, c1, hcs 0 (by omega), hcs 1 (by omega), q1, q2, q3⟩)
 exact ⟨_, n, c, ts, hv, ⟨hl, fun _ => ⟨b, o, rfl, hb, hz⟩⟩, hn, hc⟩
theorem open_poly9 {cs : List Value} (h : DataW.trod enc Tryz.prog W base spare held fuel 45 cs = some y) :
 ∃ (p : Ply) (A : Option Addr) (n c : Nat), cs = [.int .i64 p.V, .slice A n c] ∧ RdT W A n p.ts ∧ n ≤ c ∧ c ≤ 9223372036854775807 := by
 obtain ⟨y0, y1, n, _, hl, h0, h1⟩ := trod_struct2 Tryz.underlying45 h
 rw [cells_poly9] at hl
 match cs, hl with
 | [v0, v1], _ =>
   dsimp only at h0 h1
   rw [cells_int9] at h0
   rw [cells_terms9] at h1
   obtain ⟨z, e0, _⟩ := DataW.trod_int Tryz.underlying3 h0
   obtain ⟨A, n, c, ts, e1, hr, hn, hc⟩ := open_terms9 (v := v1) h1
   have e0' : [v0] = [Value.int .i64 z] := e0
   injection e0' with e0'
   subst e0' e1
   exact ⟨⟨z, ts⟩, A, n, c, rfl, hr, hn, hc⟩
theorem open_polys9 (h : DataW.trod enc Tryz.prog W base spare held fuel 49 [v] = some y) : ∃ A n c ps, v = .slice A n c ∧ RdP W A n ps ∧ n ≤ c ∧ c ≤ 9223372036854775807 := by
 obtain ⟨A, n, c, hv, hn, hc, hi⟩ := open_row Tryz.underlying49 cells_poly9 (by decide) h
 rcases Nat.eq_zero_or_pos n with rfl | h0
 · exact ⟨A, 0, c, [], hv, ⟨rfl, fun h => absurd h (by omega)⟩, hn, hc⟩
 obtain ⟨b, o, rfl, hb, hi⟩ := hi h0
 obtain ⟨ps, hl, hz⟩ := choose_list (X := Ply) ⟨0, []⟩ (p := fun i t => ∃ A1 n1 c1, PlyIs W b (o + i * 2) t A1 n1 c1) (n := n) (fun i hin => by
  obtain ⟨cs, f', y', hl, hcs, ht⟩ := hi i hin
  obtain ⟨p, A1, n1, c1, rfl, q1, q2, q3⟩ := open_poly9 ht
  exact ⟨p, A1, n1, c1, hcs 0 (by omega), hcs 1 (by omega), q1, q2, q3⟩)
 exact ⟨_, n, c, ps, hv, ⟨hl, fun _ => ⟨b, o, rfl, hb, hz⟩⟩, hn, hc⟩
theorem open_link9 {cs : List Value} (h : DataW.trod enc Tryz.prog W base spare held fuel 51 cs = some y) :
 ∃ (l : Lnk) (B : Option Addr) (m d : Nat) (C : Option Addr) (p q : Nat), cs = [.int .i64 l.kind, .slice B m d, .slice C p q] ∧ RdI W B m l.vs ∧ RdP W C p l.ps ∧ m ≤ d ∧ d ≤ 9223372036854775807 ∧ p ≤ q ∧ q ≤ 9223372036854775807 := by
 obtain ⟨xs, n, _, _, hl, hxs, hf⟩ := DataW.trod_struct Tryz.underlying51 h
 rw [cells_link9] at hl
 match cs, hl with
 | [v0, v1, v2], _ =>
   have g : ∀ j : Nat, j < 3 → ∃ y, xs[j]? = some y := fun j hj => ⟨_, List.getElem?_eq_getElem (by rw [hxs]; exact hj)⟩
   obtain ⟨y0, e0⟩ := g 0 (by omega)
   obtain ⟨y1, e1⟩ := g 1 (by omega)
   obtain ⟨y2, e2⟩ := g 2 (by omega)
   have h0 : DataW.trod enc Tryz.prog W base spare held n 3 (([v0, v1, v2].drop 0).take (Tryz.prog.cellsOf 3)) = some y0 := (hf 0 _ rfl).trans e0
   have h1 : DataW.trod enc Tryz.prog W base spare held n 48 (([v0, v1, v2].drop 1).take (Tryz.prog.cellsOf 48)) = some y1 := (hf 1 _ rfl).trans e1
   have h2 : DataW.trod enc Tryz.prog W base spare held n 49 (([v0, v1, v2].drop 2).take (Tryz.prog.cellsOf 49)) = some y2 := (hf 2 _ rfl).trans e2
   rw [cells_int9] at h0
   rw [cells_ints9] at h1
   rw [cells_polys9] at h2
   obtain ⟨z, f0, _⟩ := DataW.trod_int Tryz.underlying3 h0
   obtain ⟨B, m, d, vs, f1, r1, m1, d1⟩ := open_ints9 (v := v1) h1
   obtain ⟨C, p, q, ps, f2, r2, m2, d2⟩ := open_polys9 (v := v2) h2
   have f0' : [v0] = [Value.int .i64 z] := f0
   injection f0' with f0'
   subst f0' f1 f2
   exact ⟨⟨z, vs, ps⟩, B, m, d, C, p, q, rfl, r1, r2, m1, d1, m2, d2⟩
theorem open_links9 (h : DataW.trod enc Tryz.prog W base spare held fuel 22 [v] = some y) : ∃ A n c ls, v = .slice A n c ∧ RdL W A n ls ∧ n ≤ c ∧ c ≤ 9223372036854775807 := by
 obtain ⟨A, n, c, hv, hn, hc, hi⟩ := open_row Tryz.underlying22 cells_link9 (by decide) h
 rcases Nat.eq_zero_or_pos n with rfl | h0
 · exact ⟨A, 0, c, [], hv, ⟨rfl, fun h => absurd h (by omega)⟩, hn, hc⟩
 obtain ⟨b, o, rfl, hb, hi⟩ := hi h0
 obtain ⟨ls, hl, hz⟩ := choose_list (X := Lnk) ⟨0, [], []⟩ (p := fun i t => ∃ B1 m1 d1 C1 p1 q1, LnkIs W b (o + i * 3) t B1 m1 d1 C1 p1 q1) (n := n) (fun i hin => by
  obtain ⟨cs, f', y', hl, hcs, ht⟩ := hi i hin
  obtain ⟨l, B, m, d, C, p, q, rfl, q1, q2, q3, q4, q5, q6⟩ := open_link9 ht
  exact ⟨l, B, m, d, C, p, q, hcs 0 (by omega), hcs 1 (by omega), hcs 2 (by omega), q1, q2, q3, q4, q5, q6⟩)
 exact ⟨_, n, c, ls, hv, ⟨hl, fun _ => ⟨b, o, rfl, hb, hz⟩⟩, hn, hc⟩
end
theorem open_system {H : Type} {enc : TypeId × Value → H} {W : World} {r : Reach} {b0 base : Nat} {spare : Nat → Bool} {held : Bool} {v : Value} {d : DataW H} {p : List MemPlace}
 (hv : Value.okWide Tryz.prog W r b0 24 v) (h : DataW.Trod enc Tryz.prog W base spare held 24 v d p) :
 ∃ V A n c ls, v = .agg #[.int .i64 V, .slice A n c] ∧ RdL W A n ls ∧ n ≤ c ∧ c ≤ 9223372036854775807 := by
 obtain ⟨c0, c1, y0, y1, m, rfl, rfl, rfl, hy0, hy1⟩ := Joins.open_agg2 Tryz.underlying24 (by kernel_rfl) cells_system9 hv h
 obtain ⟨V, e0, _⟩ := DataW.trod_int Tryz.underlying3 hy0
 obtain ⟨A, n, c, ls, rfl, hr, hn, hc⟩ := open_links9 hy1
 injection e0 with e0
 subst e0
 exact ⟨V, A, n, c, ls, rfl, hr, hn, hc⟩
theorem open_nums {H : Type} {enc : TypeId × Value → H} {W : World} {r : Reach} {b0 base : Nat} {spare : Nat → Bool} {held : Bool} {v : Value} {d : DataW H} {p : List MemPlace}
 (hv : Value.okWide Tryz.prog W r b0 25 v) (h : DataW.Trod enc Tryz.prog W base spare held 25 v d p) : ∃ A n c ns, v = .slice A n c ∧ RdN W A n ns ∧ n ≤ c ∧ c ≤ 9223372036854775807 := by
 obtain ⟨a, l, c, rfl⟩ := okWide_slice Tryz.underlying25 hv
 obtain ⟨fuel, hf⟩ := h
 exact open_nums9 hf
theorem keep_system {H : Type} {enc : TypeId × Value → H} {W W' : World} {sp : Nat → Bool} {v : Value} {d : DataW H} {p : List MemPlace} (h : DataW.Trod enc Tryz.prog W 0 (fun _ => true) true 24 v d p) (hb : Below W.heap.size W W') (hlt : ∀ x ∈ p, x.block < W.heap.size)
 (hs : ∀ x ∈ p, sp x.block = true) : DataW.Trod enc Tryz.prog W' 0 sp true 24 v d p :=
 WideElems.Trod_stays laid_out (by kernel_rfl) (of_decide_eq_true (by kernel_rfl)) h (fun x hx => hb.same (hlt x hx)) hs
theorem keep_nums {H : Type} {enc : TypeId × Value → H} {W W' : World} {sp : Nat → Bool} {v : Value} {d : DataW H} {p : List MemPlace} (h : DataW.Trod enc Tryz.prog W 0 (fun _ => true) true 25 v d p) (hb : Below W.heap.size W W') (hlt : ∀ x ∈ p, x.block < W.heap.size)
 (hs : ∀ x ∈ p, sp x.block = true) : DataW.Trod enc Tryz.prog W' 0 sp true 25 v d p :=
 WideElems.Trod_stays laid_out (by kernel_rfl) (of_decide_eq_true (by kernel_rfl)) h (fun x hx => hb.same (hlt x hx)) hs
end Go.Proofs.YteabokkofoomkaaGreat

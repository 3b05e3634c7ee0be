import Derived.Test.YteabokkofoomkaaGreatCak
import Derived.Test.YteabokkofoomkaaGreatCap
import Derived.Test.YteabokkofoomkaaGreatCan
import Derived.BigRegion
set_option maxRecDepth 100000
namespace Go.Proofs.YteabokkofoomkaaGreat
open Go.RowKit Go.Shelf Go.Deep
def sumV (ts : List Trm) (ns : List Nmr) : Nat → Int
 | 0 => 0
 | k + 1 => sumV ts ns k + tVal (trmAt ts k) ns
def allV (ts : List Trm) (ns : List Nmr) : Nat → Nat
 | 0 => 0
 | k + 1 => allV ts ns k + (tVal (trmAt ts k) ns).natAbs
def pVal (ts : List Trm) (ns : List Nmr) : Int := sumV ts ns ts.length
theorem sumV_le (ts : List Trm) (ns : List Nmr) : ∀ k, (sumV ts ns k).natAbs ≤ allV ts ns k := by
 intro k
 induction k with
 | zero => exact Nat.le_refl _
 | succ k ih => exact Nat.le_trans (Int.natAbs_add_le _ _) (Nat.add_le_add_right ih _)
theorem allV_le (ts : List Trm) (ns : List Nmr) {j : Nat} : ∀ k, j ≤ k → allV ts ns j ≤ allV ts ns k := by
 intro k
 induction k with
 | zero => intro h; obtain rfl : j = 0 := by omega
           exact Nat.le_refl _
 | succ k ih =>
   intro h
   by_cases e : j = k + 1
   · subst e; exact Nat.le_refl _
   · exact Nat.le_trans (ih (by omega)) (Nat.le_add_right _ _)
theorem tVal_le (ts : List Trm) (ns : List Nmr) {j k : Nat} (h : j < k) : (tVal (trmAt ts j) ns).natAbs ≤ allV ts ns k :=
 Nat.le_trans (Nat.le_add_left _ (allV ts ns j)) (allV_le ts ns (j := j + 1) k h)
theorem vt_coef {t : Trm} {V : Int} (h : validTrm t V = true) : validB t.s t.xs = true ∧ t.xs.length ≠ 0 := by
 simp only [validTrm, Bool.and_eq_true, decide_eq_true_eq] at h
 exact ⟨h.1.1, fun e => h.1.2 (List.eq_nil_of_length_eq_zero e)⟩
structure LC (w0 : World) (b : Nat) (W : World) (k : Int) : Prop where
 low : Below w0.heap.size w0 W
 cc : Cc W b k
theorem LC.next {w0 W W' : World} {b : Nat} {k : Int} (h : LC w0 b W k) (hb : Below W.heap.size W W') : LC w0 b W' k :=
 ⟨h.low.trans (hb.mono h.low.size), h.cc.below hb⟩
theorem LC.put {w0 W W' : World} {b : Nat} {k k' : Int} (h : LC w0 b W k) (h0 : w0.heap.size ≤ b) (hs : Stp b W W') (hc : Cc W' b k') : LC w0 b W' k' :=
 ⟨h.low.trans (hs.below h.low.size h0), hc⟩
theorem LC.two {w0 W : World} {b : Nat} {k : Int} (h : LC w0 b W k) {g : Nat} (hg0 : w0.heap.size ≤ g) (hne : g ≠ b) (u v : Value) : LC w0 b ((W.setCell ⟨g, 0, none⟩ u).setCell ⟨g, 1, none⟩ v) k :=
 ⟨below_store h.low hg0 u v, h.cc.two hne u v⟩
theorem BxT.stp {W w1 : World} {g b : Nat} {s : Bool} {A : Option Addr} {n c : Nat} {B : Option Addr} {m d : Nat} (h : BxT W g s A n c B m d) (hne : g ≠ b) (hs : Stp b W w1) : BxT w1 g s A n c B m d :=
 ⟨Nat.lt_of_lt_of_le h.lt hs.size, (hs.cell (p := ⟨g, 0, none⟩) h.lt hne).trans h.c0, (hs.cell (p := ⟨g, 1, none⟩) h.lt hne).trans h.c1, (hs.cell (p := ⟨g, 2, none⟩) h.lt hne).trans h.c2⟩
def EvalR (T : Nat) (z : Int) (w : World) (e : Ending) (w' : World) : Prop :=
 ∃ t B m d k, e = .returned (.tuple #[.agg #[.bool t, .slice B m d], .int .i64 k]) ∧ (k = 0 → Iv w' z t B m d) ∧ St T k ∧ (k ≠ 0 → t = false ∧ B = none ∧ m = 0 ∧ d = 0) ∧ Below w.heap.size w w'
structure EvalP (V : Int) (ts : List Trm) (ns : List Nmr) (w : World) (e : Ending) (w' : World) : Prop where
 form : (validP V ts && allB ns) = false → Bad w 1 e w'
 arg : (validP V ts && allB ns) = true → (ns.length : Int) ≠ V → Bad w 2 e w'
 val : (validP V ts && allB ns) = true → (ns.length : Int) = V → EvalR (allV ts ns ts.length) (pVal ts ns) w e w'
theorem EvalP.of_form {V : Int} {ts : List Trm} {ns : List Nmr} {w w' : World} {e : Ending} (h : (validP V ts && allB ns) = false) (hb : Bad w 1 e w') : EvalP V ts ns w e w' :=
 ⟨fun _ => hb, fun h' => absurd (h.symm.trans h') (by decide), fun h' => absurd (h.symm.trans h') (by decide)⟩
theorem EvalP.of_arg {V : Int} {ts : List Trm} {ns : List Nmr} {w w' : World} {e : Ending} (h : (validP V ts && allB ns) = true) (hl : (ns.length : Int) ≠ V) (hb : Bad w 2 e w') : EvalP V ts ns w e w' :=
 ⟨fun h' => absurd (h.symm.trans h') (by decide), fun _ _ => hb, fun _ h' => absurd h' hl⟩
theorem EvalP.of_val {V : Int} {ts : List Trm} {ns : List Nmr} {w w' : World} {e : Ending} (h : (validP V ts && allB ns) = true) (hl : (ns.length : Int) = V) (hb : EvalR (allV ts ns ts.length) (pVal ts ns) w e w') : EvalP V ts ns w e w' :=
 ⟨fun h' => absurd (h.symm.trans h') (by decide), fun _ h' => absurd hl h', fun _ _ => hb⟩
theorem vp_at {V : Int} {ts : List Trm} (h : validP V ts = true) {k : Nat} (hk : k < ts.length) : validTrm (trmAt ts k) V = true := by
 simp only [validP, validPs, Bool.and_eq_true, decide_eq_true_eq] at h
 exact (h.2 k hk).1
theorem vp_bounds {V : Int} {ts : List Trm} (h : validP V ts = true) : 0 ≤ V ∧ V ≤ 32 ∧ ts.length ≤ 3000 := by
 simp only [validP, Bool.and_eq_true, decide_eq_true_eq] at h
 exact h.1
set_option maxHeartbeats 8000000 in
theorem polyEval_c (V : Int) (A : Option Addr) (n c : Nat) (ts : List Trm) (C : Option Addr) (m cd : Nat) (ns : List Nmr) (w : World) (h : RdT w A n ts) (h' : RdN w C m ns) (hm : m ≤ 9223372036854775807) :
 Calls Tryz.prog 76 #[aggP V A n c, .slice C m cd] w (EvalP V ts ns w) := by
 have k0 := bel_alloc w (boxP V A n c)
 have k1 := bel_alloc (w.alloc (boxP V A n c)) (.cells #[.bool false, .slice none 0 0] 58)
 have P := Lib.hid (k0.trans (k1.mono k0.size))
 have X := Lib.hid ((BxP.new w V A n c).next k1)
 have RS := Lib.hid (NV.new (w.alloc (boxP V A n c)) false none 0 0)
 rw [World.size_alloc] at RS
 have HI := Lib.hid (And.intro h h')
 have HM := Lib.hid hm
 clear k0 k1 h h' hm
 go_enter Tryz.func76, Tryz.ntmps76
 go_upto_region 1 with (fail)
 generalize (w.alloc (boxP V A n c)).alloc (.cells #[.bool false, .slice none 0 0] 58) = W0 at P X RS ⊢
 obtain ⟨g, hg⟩ : ∃ g, g = w.heap.size := ⟨_, rfl⟩
 have HG := Lib.hid hg
 rw [← hg] at X RS ⊢
 clear hg
 have a0 := X.out.c0
 have a1 := X.out.c1
 go_wp2_with fail
 refine (polyValid_c V A n c ts _ (HI.out.1.below P.out)).mono ?_
 rintro e w1 ⟨rfl, hb⟩
 replace P := Lib.hid (P.out.trans (hb.mono P.out.size))
 replace X := Lib.hid (X.out.next hb)
 replace RS := Lib.hid (RS.out.next hb)
 clear hb a0 a1
 obtain ⟨v, hv⟩ : ∃ v, v = validP V ts := ⟨_, rfl⟩
 rw [← hv]
 have HV := Lib.hid hv
 clear hv
 cases v with
 | false =>
   have HF := Lib.hid (show (validP V ts && allB ns) = false by rw [← HV.out]; rfl)
   have r0 := RS.out.r0
   have r1 := RS.out.r1
   have f0 := RS.out.f0
   have f1 := RS.out.f1
   go_wp2
   have Q := RS.out.put false none 0 0
   have q0 := Q.r0
   have q1 := Q.r1
   refine bodyPost_ret (v := .tuple #[.agg #[.bool false, .slice none 0 0], .int .i64 1]) (by simp [results, Tryz.results76, go_sem, q0, q1]) rfl ?_
   exact EvalP.of_form HF.out ⟨rfl, below_store P.out (by have := HG.out; omega) _ _⟩
 | true =>
 go_wp2_with fail
 refine (calcValid_c C m cd ns _ (HI.out.2.below P.out) HM.out).mono ?_
 rintro e w2 ⟨rfl, hb⟩
 replace P := Lib.hid (P.out.trans (hb.mono P.out.size))
 replace X := Lib.hid (X.out.next hb)
 replace RS := Lib.hid (RS.out.next hb)
 clear hb
 obtain ⟨u, hu⟩ : ∃ v, v = allB ns := ⟨_, rfl⟩
 rw [← hu]
 have HU := Lib.hid hu
 clear hu
 cases u with
 | false =>
   have HF := Lib.hid (show (validP V ts && allB ns) = false by rw [← HV.out, ← HU.out]; rfl)
   have r0 := RS.out.r0
   have r1 := RS.out.r1
   have f0 := RS.out.f0
   have f1 := RS.out.f1
   go_wp2
   have Q := RS.out.put false none 0 0
   have q0 := Q.r0
   have q1 := Q.r1
   refine bodyPost_ret (v := .tuple #[.agg #[.bool false, .slice none 0 0], .int .i64 1]) (by simp [results, Tryz.results76, go_sem, q0, q1]) rfl ?_
   exact EvalP.of_form HF.out ⟨rfl, below_store P.out (by have := HG.out; omega) _ _⟩
 | true =>
 have HT := Lib.hid (show (validP V ts && allB ns) = true by rw [← HV.out, ← HU.out]; rfl)
 have HL := Lib.hid (And.intro HI.out.1.len HI.out.2.len)
 have a0 := X.out.c0
 by_cases hm : (m : Int) = V
 case neg =>
  have t0 : ((m : Int) != V) = true := by rw [bne_iff_ne]; exact hm
  have HF := Lib.hid (show (ns.length : Int) ≠ V by rw [HL.out.2]; exact hm)
  have r0 := RS.out.r0
  have r1 := RS.out.r1
  have f0 := RS.out.f0
  have f1 := RS.out.f1
  clear hm
  go_wp2
  have Q := RS.out.put false none 0 0
  have q0 := Q.r0
  have q1 := Q.r1
  refine bodyPost_ret (v := .tuple #[.agg #[.bool false, .slice none 0 0], .int .i64 2]) (by simp [results, Tryz.results76, go_sem, q0, q1]) rfl ?_
  exact EvalP.of_arg HT.out HF.out ⟨rfl, below_store P.out (by have := HG.out; omega) _ _⟩
 case pos =>
 have t0 : ((m : Int) != V) = false := by rw [hm]; exact bne_self_eq_false _
 have HMV := Lib.hid hm
 have HBD := Lib.hid (vp_bounds HV.out.symm)
 clear hm
 have a1 := X.out.c1
 have gl : g < w2.heap.size := X.out.lt
 have q0 := bel_alloc w2 (.cells #[.int .i64 0] 77)
 have q1 := bel_alloc (w2.alloc (.cells #[.int .i64 0] 77)) (.cells #[.bool false, .slice none 0 0] 58)
 obtain ⟨b, hb⟩ : ∃ b, b = w2.heap.size := ⟨_, rfl⟩
 have Y := Lib.hid (NV.new (w2.alloc (.cells #[.int .i64 0] 77)) false none 0 0)
 rw [World.size_alloc, ← hb] at Y
 have L0 := Lib.hid (show LC w b ((w2.alloc (.cells #[.int .i64 0] 77)).alloc (.cells #[.bool false, .slice none 0 0] 58)) 0 from ⟨(P.out.trans (q0.mono P.out.size)).trans (q1.mono (Nat.le_trans P.out.size q0.size)), by
  rw [hb]
  exact ⟨by simp; omega, by go_simp, by go_simp⟩⟩)
 have RS2 := Lib.hid ((RS.out.next q0).next q1)
 have HB := Lib.hid (show w.heap.size ≤ b ∧ g + 1 < b by have h1 := P.out.size; have h2 := RS.out.lt; omega)
 have hb' := Lib.hid hb
 clear hb q0 q1
 go_wp2
 rw [← hb'.out]
 generalize (w2.alloc (.cells #[.int .i64 0] 77)).alloc (.cells #[.bool false, .slice none 0 0] 58) = W2 at Y L0 RS2 ⊢
 clear RS X P a0 a1 gl hb' t0
 have RS := RS2
 clear RS2
 have V0 := L0
 clear L0
 go_loopw [28] (fun v wr => ∃ (j : Nat) (k' : Int) (t' : Bool) (B' : Option Addr) (m' d' : Nat), v = .int .i64 (j : Int) ∧ j ≤ n ∧ LC w b wr k' ∧ NV wr (g + 1) false none 0 0 ∧ NV wr (b + 1) t' B' m' d' ∧ Ivk wr 0 k' (sumV ts ns j) t' B' m' d' ∧ St (allV ts ns ts.length) k' ∧ (k' ≠ 0 → t' = false ∧ B' = none ∧ m' = 0 ∧ d' = 0)) (fun v _ => n - (intOf v).toNat)
 case atStart => exact ⟨0, 0, false, none, 0, 0, rfl, Nat.zero_le _, V0.out, RS.out, Y.out, ⟨fun _ => ⟨rfl, zero_is _, by show (0 : Int).natAbs < pw 4096; exact pw_pos 4096⟩⟩, St.zero _, fun h => absurd rfl h⟩
 case round =>
  obtain ⟨j, k', t', B', m', d', rfl, hj, hV, hR, hY, hI, hS, hZ⟩ := hrel
  clear V0 RS Y
  have hnn : n ≤ 3000 := by have h1 := HBD.out.2.2; have h2 := HL.out.1; omega
  have V0 := Lib.hid hV
  have RS := Lib.hid hR
  have Y := Lib.hid hY
  have IV := Lib.hid hI
  have HST := Lib.hid hS
  have HZ := Lib.hid hZ
  clear hV hR hY hI hS hZ
  by_cases hjn : j < n
  · have t1 : decide ((j : Int) < (n : Int)) = true := decide_eq_true (by omega)
    have t1n : decide (j < n) = true := decide_eq_true hjn
    have hjI : (j : Int) < (n : Int) := by omega
    obtain ⟨bT, oT, rfl, hblt, hcell⟩ := HI.out.1.at_ (by omega)
    obtain ⟨A1, n1, c1, B1, m1, d1, hT0⟩ := hcell j hjn
    have T0 := Lib.hid (TrA.mk hblt hT0)
    have HVT := Lib.hid (vp_at HV.out.symm (k := j) (by rw [HL.out.1]; exact hjn))
    have HTL := Lib.hid (tVal_le ts ns (j := j) (k := ts.length) (by rw [HL.out.1]; exact hjn))
    have HSN := Lib.hid (show sumV ts ns (j + 1) = sumV ts ns j + tVal (trmAt ts j) ns from rfl)
    have HSL := Lib.hid (Nat.le_trans (sumV_le ts ns (j + 1)) (allV_le ts ns (j := j + 1) ts.length (by rw [HL.out.1]; exact hjn)))
    rw [HSN.out] at HSL
    obtain ⟨tt, htt⟩ : ∃ t, t = trmAt ts j := ⟨_, rfl⟩
    rw [← htt] at T0 HVT HTL HSN HSL
    clear hcell hT0 htt hblt
    obtain ⟨s, xs, es⟩ := tt
    obtain ⟨he, hlen⟩ := vt_exps HVT.out
    obtain rfl : m = m1 := by
     have e1 := T0.out.is.ri.len
     have e2 := HMV.out
     dsimp only at e1 hlen
     omega
    obtain ⟨hvb, hxl⟩ := vt_coef HVT.out
    have HZ0 := Lib.hid (show trZ ⟨s, xs, es⟩ ≠ 0 from fun h0 => hxl (by
     have := (zero_iff (rawIv T0.out.is.rd hvb T0.out.is.nc T0.out.is.cm).is).2 h0
     have e1 := T0.out.is.rd.len
     dsimp only at e1 ⊢
     omega))
    have HVAL := Lib.hid (fun W h1 h2 => value_c (allV ts ns ts.length) b k' w W s A1 n1 c1 xs B1 m d1 es C cd ns h1 HB.out.1 h2 HST.out T0.out.is.rd T0.out.is.nc T0.out.is.cm hvb T0.out.is.ri he (by have h1 := HMV.out; have h2 := HBD.out; omega) HI.out.2 HU.out.symm HZ0.out HTL.out)
    obtain ⟨tz, htz⟩ : ∃ q, q = tVal ⟨s, xs, es⟩ ns := ⟨_, rfl⟩
    rw [← htz] at HVAL HSN HSL
    clear htz he hlen hvb hxl
    have TW := T0.out.next V0.out.low
    have c0 := TW.is.c0
    have c1' := TW.is.c1
    have c2 := TW.is.c2
    dsimp only at c0
    have hlt9 := TW.lt
    clear TW
    have hg9 := bel_alloc wr (boxT s A1 n1 c1 B1 m d1)
    have X9 := Lib.hid (BxT.new wr s A1 n1 c1 B1 m d1)
    obtain ⟨g9, hg9e⟩ : ∃ q, q = wr.heap.size := ⟨_, rfl⟩
    have HG9 := Lib.hid (show g9 ≠ b by have := V0.out.cc.lt; omega)
    have HBG := Lib.hid (show b + 1 ≠ b ∧ g + 1 ≠ b ∧ b + 1 ≠ g + 1 by have := HB.out.2; omega)
    rw [← hg9e] at X9
    go_upto_region 10 with (fail)
    rw [← hg9e]
    replace V0 := Lib.hid (V0.out.next hg9)
    replace RS := Lib.hid (RS.out.next hg9)
    replace Y := Lib.hid (Y.out.next hg9)
    replace IV := Lib.hid (IV.out.next hg9)
    clear hg9e hg9 c0 c1' c2 hlt9
    generalize wr.alloc (boxT s A1 n1 c1 B1 m d1) = W3 at V0 RS Y IV X9 ⊢
    refine wp_region_tail (S := (fun w' => w'.cell? ⟨(b + 1), 0, none⟩ = some (.bool t') ∧ w'.cell? ⟨(b + 1), 1, none⟩ = some (.slice B' m' d') ∧ w'.cell? ⟨g9, 0, none⟩ = some (.bool s) ∧ w'.cell? ⟨g9, 1, none⟩ = some (.slice A1 n1 c1) ∧ w'.cell? ⟨g9, 2, none⟩ = some (.slice B1 m d1))) 5 (by kernel_rfl) (by kernel_rfl) (by intro c a d v w h; cases d <;> exact h) (⟨cell_drq Y.out.r0, cell_drq Y.out.r1, cell_drq X9.out.c0, cell_drq X9.out.c1, cell_drq X9.out.c2⟩) (fun QT hT hP hHeld => ?_)
    simp only [List.extract_toArray, List.extract_eq_take_drop, List.drop_zero, Nat.sub_zero, List.take_succ_cons, List.take_zero]
    have HT := Lib.hid hT
    clear hT
    replace V0 := Lib.hid (V0.out.next (Below.refl W3.heap.size W3).drew)
    replace RS := Lib.hid (RS.out.next (Below.refl W3.heap.size W3).drew)
    replace Y := Lib.hid (Y.out.next (Below.refl W3.heap.size W3).drew)
    replace IV := Lib.hid (IV.out.next (Below.refl W3.heap.size W3).drew)
    replace X9 := Lib.hid (X9.out.next (Below.refl W3.heap.size W3).drew)
    generalize W3.drew = D1 at V0 RS Y IV X9 hHeld ⊢
    refine tkk 0 32 rfl rfl (by kernel_rfl) (hP · · _) (by rfl) (fun w h => by obtain ⟨h0, h1, h2, h3, h4⟩ := h; go_simp; rfl) (by assumption) ?_
    simp only [set0, set1]
    refine tkk 1 33 rfl rfl (by kernel_rfl) (hP · · _) (by rfl) (fun w h => by obtain ⟨h0, h1, h2, h3, h4⟩ := h; go_simp; rfl) (by assumption) ?_
    simp only [set0, set1]
    refine tkk 2 34 rfl rfl (by kernel_rfl) (hP · · _) (by rfl) (fun w h => by obtain ⟨h0, h1, h2, h3, h4⟩ := h; go_simp; rfl) (by assumption) ?_
    simp only [set0, set1]
    refine wpAnyH_ready (rs := [3]) (by kernel_rfl) (by simp) ?_
    refine AllReadyH.cons rfl (fun K hK => ?_) AllReadyH.nil
    go_simp
    refine (HVAL.out D1 V0.out.low V0.out.cc).mono ?_
    rintro e v2 ⟨t2, B2, m2, d2, k2, rfl, s2, cc2, h2, h3⟩
    have YN := Lib.hid (Y.out.stp HBG.out.1 s2)
    have RN := Lib.hid (RS.out.stp HBG.out.2.1 s2)
    have XN := Lib.hid (X9.out.stp HG9.out s2)
    have IVN := Lib.hid (IV.out.stp V0.out.cc s2)
    have VN := Lib.hid (V0.out.put HB.out.1 s2 cc2)
    have IP := Lib.hid (show Ivk v2 k' k2 tz t2 B2 m2 d2 from ⟨h2⟩)
    have ST2 := Lib.hid h3
    clear Y RS IV V0 X9 hHeld s2 cc2 h2 h3
    have Y := YN
    have RS := RN
    have IV := IVN
    have V0 := VN
    have X9 := XN
    clear YN RN IVN VN XN
    refine hK.out _ _ (⟨Y.out.r0, Y.out.r1, X9.out.c0, X9.out.c1, X9.out.c2⟩) (fun hHeld => ?_)
    clear hK K
    refine wpAnyH_ready (rs := [4]) (by kernel_rfl) (by simp) ?_
    refine AllReadyH.cons rfl (fun K hK => ?_) AllReadyH.nil
    go_simp
    refine (cAddZ_c (allV ts ns ts.length) b k2 (sumV ts ns j) tz t' t2 B' B2 m' d' m2 d2 v2 V0.out.cc ST2.out (fun _ => HSL.out) (fun h0 => ⟨(IV.out.h (IP.out.h h0).1).2, (IP.out.h h0).2⟩)).mono ?_
    rintro e v3 ⟨t3, B3, m3, d3, k3, rfl, s3, cc3, h4, h5, h6⟩
    have YN := Lib.hid (Y.out.stp HBG.out.1 s3)
    have RN := Lib.hid (RS.out.stp HBG.out.2.1 s3)
    have XN := Lib.hid (X9.out.stp HG9.out s3)
    have VN := Lib.hid (V0.out.put HB.out.1 s3 cc3)
    have IQ := Lib.hid (show Ivk v3 0 k3 (sumV ts ns j + tz) t3 B3 m3 d3 from ⟨fun h0 => ⟨rfl, (h4 h0).2⟩⟩)
    have ST3 := Lib.hid h5
    have Z3 := Lib.hid h6
    clear Y RS IV V0 X9 IP hHeld s3 cc3 h4 h5 h6
    have Y := YN
    have RS := RN
    have V0 := VN
    have X9 := XN
    clear YN RN VN XN
    refine hK.out _ _ (⟨Y.out.r0, Y.out.r1, X9.out.c0, X9.out.c1, X9.out.c2⟩) (fun hHeld => ?_)
    clear hK K
    clear hHeld
    refine wpAnyH_done (by kernel_rfl) ?_ _
    refine HT.out _ _ ?_
    clear HT hP QT
    have r0 := Y.out.r0
    have r1 := Y.out.r1
    have f0 := Y.out.f0
    have f1 := Y.out.f1
    refine wpList_step fun K hK => ?_
    go_simp
    refine hK _ _ ?_
    clear hK K
    refine wpList_nil ?_
    have VN := Lib.hid (V0.out.two (g := b + 1) (by have h1 := HB.out.1; omega) HBG.out.1 (.bool t3) (.slice B3 m3 d3))
    have YN := Lib.hid (Y.out.put t3 B3 m3 d3)
    have RN := Lib.hid (RS.out.oth (g' := b + 1) HBG.out.2.2 (.bool t3) (.slice B3 m3 d3))
    have IN := Lib.hid (show Ivk _ 0 k3 (sumV ts ns (j + 1)) t3 B3 m3 d3 from ⟨fun h0 => ⟨rfl, by rw [HSN.out]; exact (IQ.out.h h0).2.two r0 r1 (.bool t3) (.slice B3 m3 d3)⟩⟩)
    clear r0 r1 f0 f1 V0 Y RS IQ X9
    go_wp2
    go_roundw
    case measure => simp [intOf]; omega
    case rel => exact ⟨j + 1, k3, t3, B3, m3, d3, by go_num, by omega, VN.out, RN.out, YN.out, IN.out, ST3.out, Z3.out⟩
  · have t1 : decide ((j : Int) < (n : Int)) = false := decide_eq_false (by omega)
    have t1n : decide (j < n) = false := decide_eq_false hjn
    obtain rfl : j = ts.length := by rw [HL.out.1]; omega
    go_upto_region 12 with (fail)
    have b0 := V0.out.cc.c0
    have y0 := Y.out.r0
    have y1 := Y.out.r1
    have r0 := RS.out.r0
    have r1 := RS.out.r1
    have f0 := RS.out.f0
    have f1 := RS.out.f1
    have ne1 : b ≠ g + 1 := by have := HB.out.2; omega
    have ne2 : b + 1 ≠ g + 1 := by have := HB.out.2; omega
    go_region
    go_wp2
    have Q := RS.out.put t' B' m' d'
    have q0 := Q.r0
    have q1 := Q.r1
    refine bodyPost_ret (v := .tuple #[.agg #[.bool t', .slice B' m' d'], .int .i64 k']) (by simp [results, Tryz.results76, go_sem, q0, q1]) rfl ?_
    exact EvalP.of_val HT.out (by rw [HL.out.2]; exact HMV.out) ⟨t', B', m', d', k', rfl, fun h0 => ((IV.out.h h0).2.two r0 r1 _ _).below (Below.refl _ _).drew, HST.out, HZ.out, (below_store V0.out.low (by have := HG.out; omega) _ _).drew⟩
end Go.Proofs.YteabokkofoomkaaGreat
set_option maxRecDepth 100000
namespace Go.Proofs.YteabokkofoomkaaGreat
open Go.RowKit
structure MinusAt (xs ys : List Nat) (k : Nat) (cs : List Nat) (y : Nat) : Prop where
 len : cs.length = xs.length
 sm : small cs
 eq : val (cs.take k) + val (ys.take k) = val (xs.take k) + pw k * y
 le : y ≤ 1
theorem MinusAt.start (xs ys : List Nat) : MinusAt xs ys 0 (List.replicate xs.length 0) 0 :=
 ⟨by simp, fun x hx => by have := List.eq_of_mem_replicate hx; omega, by simp [val], by omega⟩
theorem MinusAt.next {xs ys cs : List Nat} {k y r d : Nat} (h : MinusAt xs ys k cs y) (hk : k < xs.length) (hr : r < 4294967296) (hd : d ≤ 1) (key : r + ys.getD k 0 + y = xs.getD k 0 + 4294967296 * d) :
 MinusAt xs ys (k + 1) (cs.set k r) d := by
 refine ⟨by simp [h.len], small_set h.sm _ _ hr, ?_, hd⟩
 rw [val_take_step, val_take_step, val_take_step]
 have e1 : (cs.set k r).take k = cs.take k := List.take_set_of_le (Nat.le_refl _)
 have e2 : (cs.set k r).getD k 0 = r := by simp [List.getD_eq_getElem?_getD, h.len, hk]
 rw [e1, e2, pw_succ]
 have e := h.eq
 obtain ⟨X, hX⟩ : ∃ X, X = xs.getD k 0 := ⟨_, rfl⟩
 obtain ⟨Y, hY⟩ : ∃ Y, Y = ys.getD k 0 := ⟨_, rfl⟩
 rw [← hX, ← hY] at key ⊢
 obtain ⟨p, hp⟩ : ∃ p, p = pw k := ⟨_, rfl⟩
 rw [← hp] at e ⊢
 have m1 : p * (r + Y + y) = p * (X + 4294967296 * d) := by rw [key]
 have m2 : p * (4294967296 * d) = 4294967296 * p * d := by rw [← Nat.mul_assoc, Nat.mul_comm p]
 rw [Nat.mul_add, Nat.mul_add, Nat.mul_add, m2] at m1
 omega
theorem MinusAt.done {xs ys cs : List Nat} {y : Nat} (h : MinusAt xs ys xs.length cs y) (hl : ys.length ≤ xs.length) (hv : val ys ≤ val xs) : val cs = val xs - val ys := by
 have e := h.eq
 rw [take_of_len (by rw [h.len]; exact Nat.le_refl _), List.take_of_length_le hl, List.take_of_length_le (Nat.le_refl _)] at e
 have h2 := val_lt h.sm
 rw [h.len] at h2
 rcases Nat.eq_zero_or_pos y with h0 | h0
 · rw [h0, Nat.mul_zero] at e; omega
 · have : pw xs.length * 1 ≤ pw xs.length * y := Nat.mul_le_mul_left _ h0
   omega
set_option maxHeartbeats 1000000 in
set_option maxRecDepth 100000 in
theorem minus_c (A B : Option Addr) (n c m d : Nat) (xs ys : List Nat) (w : World) (ha : Rd w A n xs) (hb : Rd w B m ys) (hn : n ≤ 17592186044416) (hm : m ≤ n) (hv : val ys ≤ val xs) :
 Calls Tryz.prog 107 #[.slice A n c, .slice B m d] w (Made w n (val xs - val ys)) := by
 have HX := Lib.hid ha.len
 have HY := Lib.hid hb.len
 have HV := Lib.hid hv
 have hsx := ha.sm
 have hsy := hb.sm
 clear hv
 have hmk : ∀ w : World, (Instr.makeSlice 56 (.int .i64 (n : Int)) (.int .i64 (n : Int))).run Tryz.prog w = .ok (.slice (some ⟨w.heap.size, 0, none⟩) n n) (w.alloc (row (List.replicate n 0))) := mk_words n (by omega)
 have HK := Lib.hid (Bk.new0 w n)
 have HB := Lib.hid (below_alloc w (row (List.replicate n 0)))
 go_enter Tryz.func107, Tryz.ntmps107
 go_wp2
 go_loopw [6, 7] (fun cy v wr => ∃ k y : Nat, ∃ cs, cy = .int .u64 y ∧ v = .int .i64 k ∧ k ≤ n ∧ MinusAt xs ys k cs y ∧ Bk wr w.heap.size cs ∧ Below w.heap.size w wr) (fun _ v _ => n - (intOf v).toNat)
 case atStart => exact ⟨0, 0, List.replicate n 0, rfl, rfl, Nat.zero_le _, by rw [← HX.out]; exact MinusAt.start xs ys, HK.out, HB.out⟩
 case round =>
  obtain ⟨k, y, cs, rfl, rfl, hk, hP, hK, hG⟩ := hrel
  have hle := hP.le
  by_cases hkn : k < n
  · have hfx := hK.frozen k
    have hl : cs.length = n := hP.len.trans HX.out
    have hcx := hK.cell k (by omega)
    obtain ⟨b1, o1, rfl, _, hca⟩ := (ha.below hG).of (by omega)
    have hci := hca k hkn
    have hx1 := small_get hsx k
    obtain ⟨x, hx⟩ : ∃ x, x = xs.getD k 0 := ⟨_, rfl⟩
    rw [← hx] at hci hx1
    by_cases hkm : k < m
    · obtain ⟨b2, o2, rfl, _, hcb⟩ := (hb.below hG).of (by omega)
      have hdi := hcb k hkm
      have hy1 := small_get hsy k
      obtain ⟨z, hz⟩ : ∃ z, z = ys.getD k 0 := ⟨_, rfl⟩
      rw [← hz] at hdi hy1
      obtain ⟨T, hT⟩ : ∃ T, T = x + 4294967296 - y - z := ⟨_, rfl⟩
      have hT2 : (x : Int) + 4294967296 - y - z = (T : Int) := by omega
      have hT3 : T < 8589934592 := by omega
      obtain ⟨D, hD⟩ : ∃ D, D = 1 - T / 4294967296 := ⟨_, rfl⟩
      obtain ⟨R, hR⟩ : ∃ R, R = T % 4294967296 := ⟨_, rfl⟩
      have hR2 : R < 4294967296 := by omega
      have hD2 : D ≤ 1 := by omega
      have key : R + ys.getD k 0 + y = xs.getD k 0 + 4294967296 * D := by rw [← hz, ← hx]; omega
      have hnx := hP.next (by rw [HX.out]; exact hkn) hR2 hD2 key
      have hmask : bits .and .u64 (T : Int) 4294967295 = (R : Int) := by rw [u64_mask (by omega) (by omega)]; omega
      have hdv : 1 - (T : Int) / 4294967296 = (D : Int) := by omega
      have hbn := hK.set_ k R hR2
      have hgn := hG.setCell (p := ⟨w.heap.size, k, none⟩) (Nat.le_refl _) (.int .u32 (R : Int))
      have H1 := Lib.hid hnx
      have H2 := Lib.hid hbn
      have H3 := Lib.hid hgn
      clear hnx hbn hgn hP hK hG ha hb hsx hsy hT hx hca hD hR key hz hcb
      go_wp2
      go_roundw
      case measure => simp [intOf]; omega
      case rel => exact ⟨k + 1, D, _, by go_num, by go_num, by omega, H1.out, H2.out, H3.out⟩
    · have hz : 0 = ys.getD k 0 := by rw [List.getD_eq_getElem?_getD, List.getElem?_eq_none (by rw [HY.out]; omega)]; rfl
      obtain ⟨T, hT⟩ : ∃ T, T = x + 4294967296 - y := ⟨_, rfl⟩
      have hT2 : (x : Int) + 4294967296 - y = (T : Int) := by omega
      have hT3 : T < 8589934592 := by omega
      obtain ⟨D, hD⟩ : ∃ D, D = 1 - T / 4294967296 := ⟨_, rfl⟩
      obtain ⟨R, hR⟩ : ∃ R, R = T % 4294967296 := ⟨_, rfl⟩
      have hR2 : R < 4294967296 := by omega
      have hD2 : D ≤ 1 := by omega
      have key : R + ys.getD k 0 + y = xs.getD k 0 + 4294967296 * D := by rw [← hz, ← hx]; omega
      have hnx := hP.next (by rw [HX.out]; exact hkn) hR2 hD2 key
      have hmask : bits .and .u64 (T : Int) 4294967295 = (R : Int) := by rw [u64_mask (by omega) (by omega)]; omega
      have hdv : 1 - (T : Int) / 4294967296 = (D : Int) := by omega
      have hbn := hK.set_ k R hR2
      have hgn := hG.setCell (p := ⟨w.heap.size, k, none⟩) (Nat.le_refl _) (.int .u32 (R : Int))
      have H1 := Lib.hid hnx
      have H2 := Lib.hid hbn
      have H3 := Lib.hid hgn
      clear hnx hbn hgn hP hK hG ha hb hsx hsy hT hx hca hD hR key hz
      go_wp2
      go_roundw
      case measure => simp [intOf]; omega
      case rel => exact ⟨k + 1, D, _, by go_num, by go_num, by omega, H1.out, H2.out, H3.out⟩
  · obtain rfl : k = n := by omega
    have hd := (show MinusAt xs ys xs.length cs y by rw [HX.out]; exact hP).done (by rw [HX.out, HY.out]; exact hm) HV.out
    have H := Lib.hid (show ∃ cs, cs.length = k ∧ val cs = val xs - val ys ∧ Bk wr w.heap.size cs ∧ Below w.heap.size w wr from ⟨cs, hP.len.trans HX.out, hd, hK, hG⟩)
    clear hP hK hG hd ha hb hsx hsy hle
    go_wp2
    go_ret
    obtain ⟨cs, h1, h2, h3, h4⟩ := H.out
    exact ⟨cs, rfl, h1, h2, h3, h4⟩
theorem sgn_add_same (t : Bool) (X Y : Nat) : sgn t (X + Y) = sgn t X + sgn t Y := by cases t <;> simp [sgn] <;> omega
theorem sgn_sub_diff (t u : Bool) (h : t ≠ u) (X Y : Nat) (hl : Y ≤ X) : sgn t (X - Y) = sgn t X + sgn u Y := by cases t <;> cases u <;> simp [sgn] at h ⊢ <;> omega
set_option maxHeartbeats 1000000 in
set_option maxRecDepth 100000 in
theorem refAdd_same {w : World} {z z' : Int} {t : Bool} {A A' : Option Addr} {n c n' c' : Nat} (h : Is w z t A n c) (h' : Is w z' t A' n' c') (hn : n ≤ 8796093022208) (hn' : n' ≤ 8796093022208) :
 Calls Tryz.prog 63 #[.agg #[.bool t, .slice A n c], .agg #[.bool t, .slice A' n' c']] w (NumI w (z + z')) := by
 have HZ := Lib.hid (show sgn t (val (words z.natAbs) + val (words z'.natAbs)) = z + z' by
  rw [sgn_add_same, h.pos_sgn, h'.pos_sgn])
 have E := Env.start w t t A A' n c n' c'
 have HE := Lib.hid E
 have HI := Lib.hid (h.below E.below)
 have HJ := Lib.hid (h'.below E.below)
 clear E h h'
 have a0 := HE.out.a0
 have a1 := HE.out.a1
 have b0 := HE.out.b0
 have b1 := HE.out.b1
 have ht : (t == t) = true := by simp
 go_enter Tryz.func63, Tryz.ntmps63
 go_wp2_with fail
 generalize ((w.alloc (.cells #[.bool t, .slice A n c] 58)).alloc (.cells #[.bool t, .slice A' n' c'] 58)).alloc (.cells #[.bool false, .slice none 0 0] 58) = W at HE HI HJ a0 a1 b0 b1 ⊢
 have E0 := Lib.hid (HE.out.next (Below.refl _ _).drew)
 obtain ⟨N, hN, HP0⟩ := plus_c A A' n c n' c' _ _ W.drew (HI.out.2.2.1.drew) (HJ.out.2.2.1.drew) (by omega) (by omega)
 have HP := Lib.hid HP0
 clear HP0
 replace a0 : W.drew.cell? ⟨w.heap.size, 0, none⟩ = some (.bool t) := a0
 go_region_held3 (fun w' => w'.cell? ⟨w.heap.size, 0, none⟩ = some (.bool t) ∧ w'.cell? ⟨w.heap.size, 1, none⟩ = some (.slice A n c) ∧ w'.cell? ⟨w.heap.size + 1, 0, none⟩ = some (.bool t) ∧ w'.cell? ⟨w.heap.size + 1, 1, none⟩ = some (.slice A' n' c')) (first | exact ⟨a0, a1, b0, b1⟩ | exact ⟨cell_two (by omega) a0, cell_two (by omega) a1, cell_two (by omega) b0, cell_two (by omega) b1⟩)
  (first
   | (go_at_call 105
      (with_reducible refine (HP.out).mono ?_)
      rintro e w1 ⟨cs, rfl, hl, hv, hk, hb⟩
      have E1 := Lib.hid (E0.out.next hb)
      have a0 := E1.out.a0
      have a1 := E1.out.a1
      have b0 := E1.out.b0
      have b1 := E1.out.b1
      have K1 := Lib.hid (And.intro hk (And.intro hl hv))
      clear hk hl hv hb)
   | (go_at_call 71
      refine (Make_i (s := t) (xs := cs) (K1.out.2.1 ▸ K1.out.1.rd) (Nat.le_refl _) (by omega) (by omega)).mono ?_
      rintro e w2 ⟨t', B, m', d', rfl, hi, hb⟩
      rw [K1.out.2.2] at hi
      have E2 := Lib.hid (E1.out.next hb)
      have a0 := E2.out.a0
      have a1 := E2.out.a1
      have b0 := E2.out.b0
      have b1 := E2.out.b1
      have HH := Lib.hid hi
      have r0 := E2.out.r0
      have r1 := E2.out.r1
      have f0 := E2.out.f0
      have f1 := E2.out.f1
      clear hb hi))
 rw [HZ.out] at HH
 have r0 := E2.out.r0
 have r1 := E2.out.r1
 have f0 := E2.out.f0
 have f1 := E2.out.f1
 go_wp2
 refine bodyPost_ret (v := .agg #[.bool t', .slice B m' d']) (by simp [results, Tryz.results63, go_sem, r0, r1]) rfl ?_
 exact ⟨t', B, m', d', rfl, HH.out.store r0 r1 _ _, below_store E2.out.below (by omega) _ _⟩
set_option maxHeartbeats 1000000 in
set_option maxRecDepth 100000 in
theorem refAdd_diff {w : World} {z z' : Int} {t u : Bool} {A A' : Option Addr} {n c n' c' : Nat} (h : Is w z t A n c) (h' : Is w z' u A' n' c') (htu : t ≠ u) (hn : n ≤ 8796093022208) (hn' : n' ≤ 8796093022208) :
 Calls Tryz.prog 63 #[.agg #[.bool t, .slice A n c], .agg #[.bool u, .slice A' n' c']] w (NumI w (z + z')) := by
 have HL := Lib.hid h.2.1
 have HM := Lib.hid h'.2.1
 have P1 := Lib.hid h.pos_sgn
 have P2 := Lib.hid h'.pos_sgn
 have HTU := Lib.hid htu
 have ht : (t == u) = false := by rw [beq_eq_false_iff_ne]; exact htu
 clear htu
 have E := Env.start w t u A A' n c n' c'
 have HE := Lib.hid E
 have HI := Lib.hid (h.below E.below)
 have HJ := Lib.hid (h'.below E.below)
 clear E h h'
 have a0 := HE.out.a0
 have a1 := HE.out.a1
 have b0 := HE.out.b0
 have b1 := HE.out.b1
 go_enter Tryz.func63, Tryz.ntmps63
 go_wp2_with fail
 generalize ((w.alloc (.cells #[.bool t, .slice A n c] 58)).alloc (.cells #[.bool u, .slice A' n' c'] 58)).alloc (.cells #[.bool false, .slice none 0 0] 58) = W at HE HI HJ a0 a1 b0 b1 ⊢
 refine (order_c A A' n c n' c' _ _ W HI.out.2.2.1 HJ.out.2.2.1 (words_canon _) (words_canon _) (by omega) (by omega)).mono ?_
 rintro e w1 ⟨rfl, j, rfl⟩
 rw [val_words, val_words]
 have E00 := HE.out.drewN j
 have I0 := HI.out.below (below_drewN (Below.refl _ _) j)
 have J0 := HJ.out.below (below_drewN (Below.refl _ _) j)
 clear HE HI HJ a0 a1 b0 b1
 generalize W.drewN j = V at E00 I0 J0 ⊢
 have HE := Lib.hid E00
 have HI := Lib.hid I0
 have HJ := Lib.hid J0
 clear E00 I0 J0
 have a0 := HE.out.a0
 have a1 := HE.out.a1
 have b0 := HE.out.b0
 have b1 := HE.out.b1
 obtain ⟨o, ho⟩ : ∃ o, o = ord (z.natAbs : Int) (z'.natAbs : Int) := ⟨_, rfl⟩
 rw [← ho]
 rcases Nat.lt_or_ge z.natAbs z'.natAbs with hlt | hge
 · have o1 : o < 0 := by rw [ho, ord_lt (by omega)]; omega
   have HZ := Lib.hid (show sgn u (val (words z'.natAbs) - val (words z.natAbs)) = z + z' by
    rw [sgn_sub_diff u t (fun e => HTU.out e.symm) _ _ (by rw [val_words, val_words]; omega), P1.out, P2.out, Int.add_comm])
   have HV := Lib.hid (show val (words z.natAbs) ≤ val (words z'.natAbs) by rw [val_words, val_words]; omega)
   have HW := Lib.hid (show n ≤ n' by rw [HL.out, HM.out]; exact words_mono (by omega))
   clear ho hlt
   go_wp2_with fail
   have E0 := Lib.hid (HE.out.next (Below.refl _ _).drew)
   have HP := Lib.hid (minus_c A' A n' c' n c _ _ V.drew (HJ.out.2.2.1.drew) (HI.out.2.2.1.drew) (by omega) HW.out HV.out)
   replace a0 : V.drew.cell? ⟨w.heap.size, 0, none⟩ = some (.bool t) := a0
   go_region_held3 (fun w' => w'.cell? ⟨w.heap.size, 0, none⟩ = some (.bool t) ∧ w'.cell? ⟨w.heap.size, 1, none⟩ = some (.slice A n c) ∧ w'.cell? ⟨w.heap.size + 1, 0, none⟩ = some (.bool u) ∧ w'.cell? ⟨w.heap.size + 1, 1, none⟩ = some (.slice A' n' c')) (first | exact ⟨a0, a1, b0, b1⟩ | exact ⟨cell_two (by omega) a0, cell_two (by omega) a1, cell_two (by omega) b0, cell_two (by omega) b1⟩)
    (first
     | (go_at_call 107
        (with_reducible refine (HP.out).mono ?_)
        rintro e w1 ⟨cs, rfl, hl, hv, hk, hb⟩
        have E1 := Lib.hid (E0.out.next hb)
        have a0 := E1.out.a0
        have a1 := E1.out.a1
        have b0 := E1.out.b0
        have b1 := E1.out.b1
        have K1 := Lib.hid (And.intro hk (And.intro hl hv))
        clear hk hl hv hb)
     | (go_at_call 71
        refine (Make_i (s := u) (xs := cs) (K1.out.2.1 ▸ K1.out.1.rd) (Nat.le_refl _) (by omega) (by omega)).mono ?_
        rintro e w2 ⟨t', B, m', d', rfl, hi, hb⟩
        rw [K1.out.2.2] at hi
        have E2 := Lib.hid (E1.out.next hb)
        have a0 := E2.out.a0
        have a1 := E2.out.a1
        have b0 := E2.out.b0
        have b1 := E2.out.b1
        have HH := Lib.hid hi
        have r0 := E2.out.r0
        have r1 := E2.out.r1
        have f0 := E2.out.f0
        have f1 := E2.out.f1
        clear hb hi))
   rw [HZ.out] at HH
   have r0 := E2.out.r0
   have r1 := E2.out.r1
   have f0 := E2.out.f0
   have f1 := E2.out.f1
   go_wp2
   refine bodyPost_ret (v := .agg #[.bool t', .slice B m' d']) (by simp [results, Tryz.results63, go_sem, r0, r1]) rfl ?_
   exact ⟨t', B, m', d', rfl, HH.out.store r0 r1 _ _, below_store E2.out.below (by omega) _ _⟩
 · have o1 : 0 ≤ o := by
    rcases Nat.lt_or_ge z'.natAbs z.natAbs with h1 | h1
    · rw [ho, ord_gt (by omega)]; omega
    · rw [ho, ord_eq (by omega)]; omega
   have HZ := Lib.hid (show sgn t (val (words z.natAbs) - val (words z'.natAbs)) = z + z' by
    rw [sgn_sub_diff t u HTU.out _ _ (by rw [val_words, val_words]; omega), P1.out, P2.out])
   have HV := Lib.hid (show val (words z'.natAbs) ≤ val (words z.natAbs) by rw [val_words, val_words]; omega)
   have HW := Lib.hid (show n' ≤ n by rw [HL.out, HM.out]; exact words_mono (by omega))
   clear ho hge
   go_wp2_with fail
   have E0 := Lib.hid (HE.out.next (Below.refl _ _).drew)
   have HP := Lib.hid (minus_c A A' n c n' c' _ _ V.drew (HI.out.2.2.1.drew) (HJ.out.2.2.1.drew) (by omega) HW.out HV.out)
   replace a0 : V.drew.cell? ⟨w.heap.size, 0, none⟩ = some (.bool t) := a0
   go_region_held3 (fun w' => w'.cell? ⟨w.heap.size, 0, none⟩ = some (.bool t) ∧ w'.cell? ⟨w.heap.size, 1, none⟩ = some (.slice A n c) ∧ w'.cell? ⟨w.heap.size + 1, 0, none⟩ = some (.bool u) ∧ w'.cell? ⟨w.heap.size + 1, 1, none⟩ = some (.slice A' n' c')) (first | exact ⟨a0, a1, b0, b1⟩ | exact ⟨cell_two (by omega) a0, cell_two (by omega) a1, cell_two (by omega) b0, cell_two (by omega) b1⟩)
    (first
     | (go_at_call 107
        (with_reducible refine (HP.out).mono ?_)
        rintro e w1 ⟨cs, rfl, hl, hv, hk, hb⟩
        have E1 := Lib.hid (E0.out.next hb)
        have a0 := E1.out.a0
        have a1 := E1.out.a1
        have b0 := E1.out.b0
        have b1 := E1.out.b1
        have K1 := Lib.hid (And.intro hk (And.intro hl hv))
        clear hk hl hv hb)
     | (go_at_call 71
        refine (Make_i (s := t) (xs := cs) (K1.out.2.1 ▸ K1.out.1.rd) (Nat.le_refl _) (by omega) (by omega)).mono ?_
        rintro e w2 ⟨t', B, m', d', rfl, hi, hb⟩
        rw [K1.out.2.2] at hi
        have E2 := Lib.hid (E1.out.next hb)
        have a0 := E2.out.a0
        have a1 := E2.out.a1
        have b0 := E2.out.b0
        have b1 := E2.out.b1
        have HH := Lib.hid hi
        have r0 := E2.out.r0
        have r1 := E2.out.r1
        have f0 := E2.out.f0
        have f1 := E2.out.f1
        clear hb hi))
   rw [HZ.out] at HH
   have r0 := E2.out.r0
   have r1 := E2.out.r1
   have f0 := E2.out.f0
   have f1 := E2.out.f1
   go_wp2
   refine bodyPost_ret (v := .agg #[.bool t', .slice B m' d']) (by simp [results, Tryz.results63, go_sem, r0, r1]) rfl ?_
   exact ⟨t', B, m', d', rfl, HH.out.store r0 r1 _ _, below_store E2.out.below (by omega) _ _⟩
theorem refAdd_c {w : World} {z z' : Int} {t u : Bool} {A A' : Option Addr} {n c n' c' : Nat} (h : Is w z t A n c) (h' : Is w z' u A' n' c') (hn : n ≤ 8796093022208) (hn' : n' ≤ 8796093022208) :
 Calls Tryz.prog 63 #[.agg #[.bool t, .slice A n c], .agg #[.bool u, .slice A' n' c']] w (NumI w (z + z')) := by
 by_cases e : t = u
 · subst e; exact refAdd_same h h' hn hn'
 · exact refAdd_diff h h' e hn hn'
end Go.Proofs.YteabokkofoomkaaGreat

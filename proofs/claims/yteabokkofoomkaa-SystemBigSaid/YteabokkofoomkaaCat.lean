import Derived.Test.YteabokkofoomkaaCao
import Derived.Test.YteabokkofoomkaaCas
import Derived.Test.YteabokkofoomkaaCae
import Derived.Test.YteabokkofoomkaaCag
import Derived.Test.YteabokkofoomkaaCaf
import Derived.Test.YteabokkofoomkaaCaj
import Derived.Test.YteabokkofoomkaaCad
import Derived.Test.YteabokkofoomkaaCam
import Derived.BigRegion
import Derived.Deep.LoopGhost
import Derived.Deep.QuietTactic
import Derived.BigQuiet
set_option maxRecDepth 100000
namespace Go.Proofs.Yteabokkofoomkaa
open Go.RowKit Go.Shelf Go.Deep
def sumV (ts : List Trm) (ns : List Nmr) : Nat → Int
 | 0 => 0
 | k + 1 => sumV ts ns k + tVal (trmAt ts k) ns
def allV (ts : List Trm) (ns : List Nmr) : Nat → Nat
 | 0 => 0
 | k + 1 => allV ts ns k + (tVal (trmAt ts k) ns).natAbs
def pVal (ts : List Trm) (ns : List Nmr) : Int := sumV ts ns ts.length
theorem sumV_le (ts : List Trm) (ns : List Nmr) : ∀ k, (sumV ts ns k).natAbs ≤ allV ts ns k := by
 intro k
 induction k with
 | zero => exact Nat.le_refl _
 | succ k ih => exact Nat.le_trans (Int.natAbs_add_le _ _) (Nat.add_le_add_right ih _)
theorem allV_le (ts : List Trm) (ns : List Nmr) {j : Nat} : ∀ k, j ≤ k → allV ts ns j ≤ allV ts ns k := by
 intro k
 induction k with
 | zero => intro h; obtain rfl : j = 0 := by omega
           exact Nat.le_refl _
 | succ k ih =>
   intro h
   by_cases e : j = k + 1
   · subst e; exact Nat.le_refl _
   · exact Nat.le_trans (ih (by omega)) (Nat.le_add_right _ _)
theorem tVal_le (ts : List Trm) (ns : List Nmr) {j k : Nat} (h : j < k) : (tVal (trmAt ts j) ns).natAbs ≤ allV ts ns k :=
 Nat.le_trans (Nat.le_add_left _ (allV ts ns j)) (allV_le ts ns (j := j + 1) k h)
theorem vt_coef {t : Trm} {V : Int} (h : validTrm t V = true) : validB t.s t.xs = true ∧ t.xs.length ≠ 0 := by
 simp only [validTrm, Bool.and_eq_true, decide_eq_true_eq] at h
 exact ⟨h.1.1, fun e => h.1.2 (List.eq_nil_of_length_eq_zero e)⟩
structure LC (w0 : World) (b : Nat) (W : World) (k : Int) : Prop where
 low : Below w0.heap.size w0 W
 cc : Cc W b k
theorem LC.next {w0 W W' : World} {b : Nat} {k : Int} (h : LC w0 b W k) (hb : Below W.heap.size W W') : LC w0 b W' k :=
 ⟨h.low.trans (hb.mono h.low.size), h.cc.below hb⟩
theorem LC.put {w0 W W' : World} {b : Nat} {k k' : Int} (h : LC w0 b W k) (h0 : w0.heap.size ≤ b) (hs : Stp b W W') (hc : Cc W' b k') : LC w0 b W' k' :=
 ⟨h.low.trans (hs.below h.low.size h0), hc⟩
theorem LC.two {w0 W : World} {b : Nat} {k : Int} (h : LC w0 b W k) {g : Nat} (hg0 : w0.heap.size ≤ g) (hne : g ≠ b) (u v : Value) : LC w0 b ((W.setCell ⟨g, 0, none⟩ u).setCell ⟨g, 1, none⟩ v) k :=
 ⟨below_store h.low hg0 u v, h.cc.two hne u v⟩
theorem BxT.stp {W w1 : World} {g b : Nat} {s : Bool} {A : Option Addr} {n c : Nat} {B : Option Addr} {m d : Nat} (h : BxT W g s A n c B m d) (hne : g ≠ b) (hs : Stp b W w1) : BxT w1 g s A n c B m d :=
 ⟨Nat.lt_of_lt_of_le h.lt hs.size, (hs.cell (p := ⟨g, 0, none⟩) h.lt hne).trans h.c0, (hs.cell (p := ⟨g, 1, none⟩) h.lt hne).trans h.c1, (hs.cell (p := ⟨g, 2, none⟩) h.lt hne).trans h.c2⟩
def EvalR (T : Nat) (z : Int) (w : World) (e : Ending) (w' : World) : Prop :=
 ∃ t B m d k, e = .returned (.tuple #[.agg #[.bool t, .slice B m d], .int .i64 k]) ∧ (k = 0 → Iv w' z t B m d) ∧ St T k ∧ (k ≠ 0 → t = false ∧ B = none ∧ m = 0 ∧ d = 0) ∧ Below w.heap.size w w'
structure EvalP (V : Int) (ts : List Trm) (ns : List Nmr) (w : World) (e : Ending) (w' : World) : Prop where
 form : (validP V ts && allB ns) = false → Bad w 1 e w'
 arg : (validP V ts && allB ns) = true → (ns.length : Int) ≠ V → Bad w 2 e w'
 val : (validP V ts && allB ns) = true → (ns.length : Int) = V → EvalR (allV ts ns ts.length) (pVal ts ns) w e w'
theorem EvalP.of_form {V : Int} {ts : List Trm} {ns : List Nmr} {w w' : World} {e : Ending} (h : (validP V ts && allB ns) = false) (hb : Bad w 1 e w') : EvalP V ts ns w e w' :=
 ⟨fun _ => hb, fun h' => absurd (h.symm.trans h') (by decide), fun h' => absurd (h.symm.trans h') (by decide)⟩
theorem EvalP.of_arg {V : Int} {ts : List Trm} {ns : List Nmr} {w w' : World} {e : Ending} (h : (validP V ts && allB ns) = true) (hl : (ns.length : Int) ≠ V) (hb : Bad w 2 e w') : EvalP V ts ns w e w' :=
 ⟨fun h' => absurd (h.symm.trans h') (by decide), fun _ _ => hb, fun _ h' => absurd h' hl⟩
theorem EvalP.of_val {V : Int} {ts : List Trm} {ns : List Nmr} {w w' : World} {e : Ending} (h : (validP V ts && allB ns) = true) (hl : (ns.length : Int) = V) (hb : EvalR (allV ts ns ts.length) (pVal ts ns) w e w') : EvalP V ts ns w e w' :=
 ⟨fun h' => absurd (h.symm.trans h') (by decide), fun _ h' => absurd hl h', fun _ _ => hb⟩
theorem vp_at {V : Int} {ts : List Trm} (h : validP V ts = true) {k : Nat} (hk : k < ts.length) : validTrm (trmAt ts k) V = true := by
 simp only [validP, validPs, Bool.and_eq_true, decide_eq_true_eq] at h
 exact (h.2 k hk).1
theorem vp_bounds {V : Int} {ts : List Trm} (h : validP V ts = true) : 0 ≤ V ∧ V ≤ 32 ∧ ts.length ≤ 3000 := by
 simp only [validP, Bool.and_eq_true, decide_eq_true_eq] at h
 exact h.1
set_option maxHeartbeats 8000000 in
theorem polyEval_c (V : Int) (A : Option Addr) (n c : Nat) (ts : List Trm) (C : Option Addr) (m cd : Nat) (ns : List Nmr) (w : World) (h : RdT w A n ts) (h' : RdN w C m ns) (hm : m ≤ 9223372036854775807) :
 Calls Try.prog 38 #[aggP V A n c, .slice C m cd] w (EvalP V ts ns w) := by
 have k0 := bel_alloc w (boxP V A n c)
 have k1 := bel_alloc (w.alloc (boxP V A n c)) (.cells #[.bool false, .slice none 0 0] 24)
 have P := Lib.hid (k0.trans (k1.mono k0.size))
 have X := Lib.hid ((BxP.new w V A n c).next k1)
 have RS := Lib.hid (NV.new (w.alloc (boxP V A n c)) false none 0 0)
 rw [World.size_alloc] at RS
 have HI := Lib.hid (And.intro h h')
 have HM := Lib.hid hm
 clear k0 k1 h h' hm
 go_enter Try.func38, Try.ntmps38
 go_upto_region 1 with (fail)
 generalize (w.alloc (boxP V A n c)).alloc (.cells #[.bool false, .slice none 0 0] 24) = W0 at P X RS ⊢
 obtain ⟨g, hg⟩ : ∃ g, g = w.heap.size := ⟨_, rfl⟩
 have HG := Lib.hid hg
 rw [← hg] at X RS ⊢
 clear hg
 have a0 := X.out.c0
 have a1 := X.out.c1
 go_wp2_with fail
 refine (polyValid_c V A n c ts _ (HI.out.1.below P.out)).mono ?_
 rintro e w1 ⟨rfl, hb⟩
 replace P := Lib.hid (P.out.trans (hb.mono P.out.size))
 replace X := Lib.hid (X.out.next hb)
 replace RS := Lib.hid (RS.out.next hb)
 clear hb a0 a1
 obtain ⟨v, hv⟩ : ∃ v, v = validP V ts := ⟨_, rfl⟩
 rw [← hv]
 have HV := Lib.hid hv
 clear hv
 cases v with
 | false =>
   have HF := Lib.hid (show (validP V ts && allB ns) = false by rw [← HV.out]; rfl)
   have r0 := RS.out.r0
   have r1 := RS.out.r1
   have f0 := RS.out.f0
   have f1 := RS.out.f1
   go_wp2
   have Q := RS.out.put false none 0 0
   have q0 := Q.r0
   have q1 := Q.r1
   refine bodyPost_ret (v := .tuple #[.agg #[.bool false, .slice none 0 0], .int .i64 1]) (by simp [results, Try.results38, go_sem, q0, q1]) rfl ?_
   exact EvalP.of_form HF.out ⟨rfl, below_store P.out (by have := HG.out; omega) _ _⟩
 | true =>
 go_wp2_with fail
 refine (calcValid_c C m cd ns _ (HI.out.2.below P.out) HM.out).mono ?_
 rintro e w2 ⟨rfl, hb⟩
 replace P := Lib.hid (P.out.trans (hb.mono P.out.size))
 replace X := Lib.hid (X.out.next hb)
 replace RS := Lib.hid (RS.out.next hb)
 clear hb
 obtain ⟨u, hu⟩ : ∃ v, v = allB ns := ⟨_, rfl⟩
 rw [← hu]
 have HU := Lib.hid hu
 clear hu
 cases u with
 | false =>
   have HF := Lib.hid (show (validP V ts && allB ns) = false by rw [← HV.out, ← HU.out]; rfl)
   have r0 := RS.out.r0
   have r1 := RS.out.r1
   have f0 := RS.out.f0
   have f1 := RS.out.f1
   go_wp2
   have Q := RS.out.put false none 0 0
   have q0 := Q.r0
   have q1 := Q.r1
   refine bodyPost_ret (v := .tuple #[.agg #[.bool false, .slice none 0 0], .int .i64 1]) (by simp [results, Try.results38, go_sem, q0, q1]) rfl ?_
   exact EvalP.of_form HF.out ⟨rfl, below_store P.out (by have := HG.out; omega) _ _⟩
 | true =>
 have HT := Lib.hid (show (validP V ts && allB ns) = true by rw [← HV.out, ← HU.out]; rfl)
 have HL := Lib.hid (And.intro HI.out.1.len HI.out.2.len)
 have a0 := X.out.c0
 by_cases hm : (m : Int) = V
 case neg =>
  have t0 : ((m : Int) != V) = true := by rw [bne_iff_ne]; exact hm
  have HF := Lib.hid (show (ns.length : Int) ≠ V by rw [HL.out.2]; exact hm)
  have r0 := RS.out.r0
  have r1 := RS.out.r1
  have f0 := RS.out.f0
  have f1 := RS.out.f1
  clear hm
  go_wp2
  have Q := RS.out.put false none 0 0
  have q0 := Q.r0
  have q1 := Q.r1
  refine bodyPost_ret (v := .tuple #[.agg #[.bool false, .slice none 0 0], .int .i64 2]) (by simp [results, Try.results38, go_sem, q0, q1]) rfl ?_
  exact EvalP.of_arg HT.out HF.out ⟨rfl, below_store P.out (by have := HG.out; omega) _ _⟩
 case pos =>
 have t0 : ((m : Int) != V) = false := by rw [hm]; exact bne_self_eq_false _
 have HMV := Lib.hid hm
 have HBD := Lib.hid (vp_bounds HV.out.symm)
 clear hm
 have a1 := X.out.c1
 have gl : g < w2.heap.size := X.out.lt
 have q0 := bel_alloc w2 (.cells #[.int .i64 0] 68)
 have q1 := bel_alloc (w2.alloc (.cells #[.int .i64 0] 68)) (.cells #[.bool false, .slice none 0 0] 24)
 obtain ⟨b, hb⟩ : ∃ b, b = w2.heap.size := ⟨_, rfl⟩
 have Y := Lib.hid (NV.new (w2.alloc (.cells #[.int .i64 0] 68)) false none 0 0)
 rw [World.size_alloc, ← hb] at Y
 have L0 := Lib.hid (show LC w b ((w2.alloc (.cells #[.int .i64 0] 68)).alloc (.cells #[.bool false, .slice none 0 0] 24)) 0 from ⟨(P.out.trans (q0.mono P.out.size)).trans (q1.mono (Nat.le_trans P.out.size q0.size)), by
  rw [hb]
  exact ⟨by simp; omega, by go_simp, by go_simp⟩⟩)
 have RS2 := Lib.hid ((RS.out.next q0).next q1)
 have HB := Lib.hid (show w.heap.size ≤ b ∧ g + 1 < b by have h1 := P.out.size; have h2 := RS.out.lt; omega)
 have hb' := Lib.hid hb
 clear hb q0 q1
 go_wp2
 rw [← hb'.out]
 generalize (w2.alloc (.cells #[.int .i64 0] 68)).alloc (.cells #[.bool false, .slice none 0 0] 24) = W2 at Y L0 RS2 ⊢
 clear RS X P a0 a1 gl hb' t0
 have RS := RS2
 clear RS2
 have V0 := L0
 clear L0
 go_loopw [28] (fun v wr => ∃ (j : Nat) (k' : Int) (t' : Bool) (B' : Option Addr) (m' d' : Nat), v = .int .i64 (j : Int) ∧ j ≤ n ∧ LC w b wr k' ∧ NV wr (g + 1) false none 0 0 ∧ NV wr (b + 1) t' B' m' d' ∧ Ivk wr 0 k' (sumV ts ns j) t' B' m' d' ∧ St (allV ts ns ts.length) k' ∧ (k' ≠ 0 → t' = false ∧ B' = none ∧ m' = 0 ∧ d' = 0)) (fun v _ => n - (intOf v).toNat)
 case atStart => exact ⟨0, 0, false, none, 0, 0, rfl, Nat.zero_le _, V0.out, RS.out, Y.out, ⟨fun _ => ⟨rfl, zero_is _, by show (0 : Int).natAbs < pw 4096; exact pw_pos 4096⟩⟩, St.zero _, fun h => absurd rfl h⟩
 case round =>
  obtain ⟨j, k', t', B', m', d', rfl, hj, hV, hR, hY, hI, hS, hZ⟩ := hrel
  clear V0 RS Y
  have hnn : n ≤ 3000 := by have h1 := HBD.out.2.2; have h2 := HL.out.1; omega
  have V0 := Lib.hid hV
  have RS := Lib.hid hR
  have Y := Lib.hid hY
  have IV := Lib.hid hI
  have HST := Lib.hid hS
  have HZ := Lib.hid hZ
  clear hV hR hY hI hS hZ
  by_cases hjn : j < n
  · have t1 : decide ((j : Int) < (n : Int)) = true := decide_eq_true (by omega)
    have t1n : decide (j < n) = true := decide_eq_true hjn
    have hjI : (j : Int) < (n : Int) := by omega
    obtain ⟨bT, oT, rfl, hblt, hcell⟩ := HI.out.1.at_ (by omega)
    obtain ⟨A1, n1, c1, B1, m1, d1, hT0⟩ := hcell j hjn
    have T0 := Lib.hid (TrA.mk hblt hT0)
    have HVT := Lib.hid (vp_at HV.out.symm (k := j) (by rw [HL.out.1]; exact hjn))
    have HTL := Lib.hid (tVal_le ts ns (j := j) (k := ts.length) (by rw [HL.out.1]; exact hjn))
    have HSN := Lib.hid (show sumV ts ns (j + 1) = sumV ts ns j + tVal (trmAt ts j) ns from rfl)
    have HSL := Lib.hid (Nat.le_trans (sumV_le ts ns (j + 1)) (allV_le ts ns (j := j + 1) ts.length (by rw [HL.out.1]; exact hjn)))
    rw [HSN.out] at HSL
    obtain ⟨tt, htt⟩ : ∃ t, t = trmAt ts j := ⟨_, rfl⟩
    rw [← htt] at T0 HVT HTL HSN HSL
    clear hcell hT0 htt hblt
    obtain ⟨s, xs, es⟩ := tt
    obtain ⟨he, hlen⟩ := vt_exps HVT.out
    obtain rfl : m = m1 := by
     have e1 := T0.out.is.ri.len
     have e2 := HMV.out
     dsimp only at e1 hlen
     omega
    obtain ⟨hvb, hxl⟩ := vt_coef HVT.out
    have HZ0 := Lib.hid (show trZ ⟨s, xs, es⟩ ≠ 0 from fun h0 => hxl (by
     have := (zero_iff (rawIv T0.out.is.rd hvb T0.out.is.nc T0.out.is.cm).is).2 h0
     have e1 := T0.out.is.rd.len
     dsimp only at e1 ⊢
     omega))
    have HVAL := Lib.hid (fun W h1 h2 => value_c (allV ts ns ts.length) b k' w W s A1 n1 c1 xs B1 m d1 es C cd ns h1 HB.out.1 h2 HST.out T0.out.is.rd T0.out.is.nc T0.out.is.cm hvb T0.out.is.ri he (by have h1 := HMV.out; have h2 := HBD.out; omega) HI.out.2 HU.out.symm HZ0.out HTL.out)
    obtain ⟨tz, htz⟩ : ∃ q, q = tVal ⟨s, xs, es⟩ ns := ⟨_, rfl⟩
    rw [← htz] at HVAL HSN HSL
    clear htz he hlen hvb hxl
    have TW := T0.out.next V0.out.low
    have c0 := TW.is.c0
    have c1' := TW.is.c1
    have c2 := TW.is.c2
    dsimp only at c0
    have hlt9 := TW.lt
    clear TW
    have hg9 := bel_alloc wr (boxT s A1 n1 c1 B1 m d1)
    have X9 := Lib.hid (BxT.new wr s A1 n1 c1 B1 m d1)
    obtain ⟨g9, hg9e⟩ : ∃ q, q = wr.heap.size := ⟨_, rfl⟩
    have HG9 := Lib.hid (show g9 ≠ b by have := V0.out.cc.lt; omega)
    have HBG := Lib.hid (show b + 1 ≠ b ∧ g + 1 ≠ b ∧ b + 1 ≠ g + 1 by have := HB.out.2; omega)
    rw [← hg9e] at X9
    go_upto_region 10 with (fail)
    rw [← hg9e]
    replace V0 := Lib.hid (V0.out.next hg9)
    replace RS := Lib.hid (RS.out.next hg9)
    replace Y := Lib.hid (Y.out.next hg9)
    replace IV := Lib.hid (IV.out.next hg9)
    clear hg9e hg9 c0 c1' c2 hlt9
    generalize wr.alloc (boxT s A1 n1 c1 B1 m d1) = W3 at V0 RS Y IV X9 ⊢
    refine wp_region_tail (S := (fun w' => w'.cell? ⟨(b + 1), 0, none⟩ = some (.bool t') ∧ w'.cell? ⟨(b + 1), 1, none⟩ = some (.slice B' m' d') ∧ w'.cell? ⟨g9, 0, none⟩ = some (.bool s) ∧ w'.cell? ⟨g9, 1, none⟩ = some (.slice A1 n1 c1) ∧ w'.cell? ⟨g9, 2, none⟩ = some (.slice B1 m d1))) 5 (by kernel_rfl) (by kernel_rfl) (by intro c a d v w h; cases d <;> exact h) (⟨cell_drq Y.out.r0, cell_drq Y.out.r1, cell_drq X9.out.c0, cell_drq X9.out.c1, cell_drq X9.out.c2⟩) (fun QT hT hP hHeld => ?_)
    simp only [List.extract_toArray, List.extract_eq_take_drop, List.drop_zero, Nat.sub_zero, List.take_succ_cons, List.take_zero]
    have HT := Lib.hid hT
    clear hT
    replace V0 := Lib.hid (V0.out.next (Below.refl W3.heap.size W3).drew)
    replace RS := Lib.hid (RS.out.next (Below.refl W3.heap.size W3).drew)
    replace Y := Lib.hid (Y.out.next (Below.refl W3.heap.size W3).drew)
    replace IV := Lib.hid (IV.out.next (Below.refl W3.heap.size W3).drew)
    replace X9 := Lib.hid (X9.out.next (Below.refl W3.heap.size W3).drew)
    generalize W3.drew = D1 at V0 RS Y IV X9 hHeld ⊢
    refine tkk 0 32 rfl rfl (by kernel_rfl) (hP · · _) (by rfl) (fun w h => by obtain ⟨h0, h1, h2, h3, h4⟩ := h; go_simp; rfl) (by assumption) ?_
    simp only [set0, set1]
    refine tkk 1 33 rfl rfl (by kernel_rfl) (hP · · _) (by rfl) (fun w h => by obtain ⟨h0, h1, h2, h3, h4⟩ := h; go_simp; rfl) (by assumption) ?_
    simp only [set0, set1]
    refine tkk 2 34 rfl rfl (by kernel_rfl) (hP · · _) (by rfl) (fun w h => by obtain ⟨h0, h1, h2, h3, h4⟩ := h; go_simp; rfl) (by assumption) ?_
    simp only [set0, set1]
    refine wpAnyH_ready (rs := [3]) (by kernel_rfl) (by simp) ?_
    refine AllReadyH.cons rfl (fun K hK => ?_) AllReadyH.nil
    go_simp
    refine (HVAL.out D1 V0.out.low V0.out.cc).mono ?_
    rintro e v2 ⟨t2, B2, m2, d2, k2, rfl, s2, cc2, h2, h3⟩
    have YN := Lib.hid (Y.out.stp HBG.out.1 s2)
    have RN := Lib.hid (RS.out.stp HBG.out.2.1 s2)
    have XN := Lib.hid (X9.out.stp HG9.out s2)
    have IVN := Lib.hid (IV.out.stp V0.out.cc s2)
    have VN := Lib.hid (V0.out.put HB.out.1 s2 cc2)
    have IP := Lib.hid (show Ivk v2 k' k2 tz t2 B2 m2 d2 from ⟨h2⟩)
    have ST2 := Lib.hid h3
    clear Y RS IV V0 X9 hHeld s2 cc2 h2 h3
    have Y := YN
    have RS := RN
    have IV := IVN
    have V0 := VN
    have X9 := XN
    clear YN RN IVN VN XN
    refine hK.out _ _ (⟨Y.out.r0, Y.out.r1, X9.out.c0, X9.out.c1, X9.out.c2⟩) (fun hHeld => ?_)
    clear hK K
    refine wpAnyH_ready (rs := [4]) (by kernel_rfl) (by simp) ?_
    refine AllReadyH.cons rfl (fun K hK => ?_) AllReadyH.nil
    go_simp
    refine (cAddZ_c (allV ts ns ts.length) b k2 (sumV ts ns j) tz t' t2 B' B2 m' d' m2 d2 v2 V0.out.cc ST2.out (fun _ => HSL.out) (fun h0 => ⟨(IV.out.h (IP.out.h h0).1).2, (IP.out.h h0).2⟩)).mono ?_
    rintro e v3 ⟨t3, B3, m3, d3, k3, rfl, s3, cc3, h4, h5, h6⟩
    have YN := Lib.hid (Y.out.stp HBG.out.1 s3)
    have RN := Lib.hid (RS.out.stp HBG.out.2.1 s3)
    have XN := Lib.hid (X9.out.stp HG9.out s3)
    have VN := Lib.hid (V0.out.put HB.out.1 s3 cc3)
    have IQ := Lib.hid (show Ivk v3 0 k3 (sumV ts ns j + tz) t3 B3 m3 d3 from ⟨fun h0 => ⟨rfl, (h4 h0).2⟩⟩)
    have ST3 := Lib.hid h5
    have Z3 := Lib.hid h6
    clear Y RS IV V0 X9 IP hHeld s3 cc3 h4 h5 h6
    have Y := YN
    have RS := RN
    have V0 := VN
    have X9 := XN
    clear YN RN VN XN
    refine hK.out _ _ (⟨Y.out.r0, Y.out.r1, X9.out.c0, X9.out.c1, X9.out.c2⟩) (fun hHeld => ?_)
    clear hK K
    clear hHeld
    refine wpAnyH_done (by kernel_rfl) ?_ _
    refine HT.out _ _ ?_
    clear HT hP QT
    have r0 := Y.out.r0
    have r1 := Y.out.r1
    have f0 := Y.out.f0
    have f1 := Y.out.f1
    refine wpList_step fun K hK => ?_
    go_simp
    refine hK _ _ ?_
    clear hK K
    refine wpList_nil ?_
    have VN := Lib.hid (V0.out.two (g := b + 1) (by have h1 := HB.out.1; omega) HBG.out.1 (.bool t3) (.slice B3 m3 d3))
    have YN := Lib.hid (Y.out.put t3 B3 m3 d3)
    have RN := Lib.hid (RS.out.oth (g' := b + 1) HBG.out.2.2 (.bool t3) (.slice B3 m3 d3))
    have IN := Lib.hid (show Ivk _ 0 k3 (sumV ts ns (j + 1)) t3 B3 m3 d3 from ⟨fun h0 => ⟨rfl, by rw [HSN.out]; exact (IQ.out.h h0).2.two r0 r1 (.bool t3) (.slice B3 m3 d3)⟩⟩)
    clear r0 r1 f0 f1 V0 Y RS IQ X9
    go_wp2
    go_roundw
    case measure => simp [intOf]; omega
    case rel => exact ⟨j + 1, k3, t3, B3, m3, d3, by go_num, by omega, VN.out, RN.out, YN.out, IN.out, ST3.out, Z3.out⟩
  · have t1 : decide ((j : Int) < (n : Int)) = false := decide_eq_false (by omega)
    have t1n : decide (j < n) = false := decide_eq_false hjn
    obtain rfl : j = ts.length := by rw [HL.out.1]; omega
    go_upto_region 12 with (fail)
    have b0 := V0.out.cc.c0
    have y0 := Y.out.r0
    have y1 := Y.out.r1
    have r0 := RS.out.r0
    have r1 := RS.out.r1
    have f0 := RS.out.f0
    have f1 := RS.out.f1
    have ne1 : b ≠ g + 1 := by have := HB.out.2; omega
    have ne2 : b + 1 ≠ g + 1 := by have := HB.out.2; omega
    go_region
    go_wp2
    have Q := RS.out.put t' B' m' d'
    have q0 := Q.r0
    have q1 := Q.r1
    refine bodyPost_ret (v := .tuple #[.agg #[.bool t', .slice B' m' d'], .int .i64 k']) (by simp [results, Try.results38, go_sem, q0, q1]) rfl ?_
    exact EvalP.of_val HT.out (by rw [HL.out.2]; exact HMV.out) ⟨t', B', m', d', k', rfl, fun h0 => ((IV.out.h h0).2.two r0 r1 _ _).below (Below.refl _ _).drew, HST.out, HZ.out, (below_store V0.out.low (by have := HG.out; omega) _ _).drew⟩
end Go.Proofs.Yteabokkofoomkaa
namespace Go.Proofs.Yteabokkofoomkaa
open Go.RowKit
theorem mod_and (a b : Nat) : (a &&& b) % 4294967296 = a % 4294967296 &&& b % 4294967296 := by
 have h := @Nat.and_mod_two_pow a b 32
 simpa using h
theorem div_and (a b : Nat) : (a &&& b) / 4294967296 = a / 4294967296 &&& b / 4294967296 := by
 have h := @Nat.shiftRight_and_distrib 32 a b
 simpa [Nat.shiftRight_eq_div_pow] using h
theorem and_split (x y X Y : Nat) (hx : x < 4294967296) (hy : y < 4294967296) : (x + 4294967296 * X) &&& (y + 4294967296 * Y) = (x &&& y) + 4294967296 * (X &&& Y) := by
 have h1 := mod_and (x + 4294967296 * X) (y + 4294967296 * Y)
 have h2 := div_and (x + 4294967296 * X) (y + 4294967296 * Y)
 rw [show (x + 4294967296 * X) % 4294967296 = x by omega, show (y + 4294967296 * Y) % 4294967296 = y by omega] at h1
 rw [show (x + 4294967296 * X) / 4294967296 = X by omega, show (y + 4294967296 * Y) / 4294967296 = Y by omega] at h2
 omega
theorem not_under (x y : Nat) (hy : y < 4294967296) : x < 4294967296 → (x &&& (4294967295 - y) = 0 ↔ x &&& y = x) := by
 intro hx
 have hb : ∀ i, (4294967295 - y).testBit i = (decide (i < 32) && !y.testBit i) := fun i => by
  have := @Nat.testBit_two_pow_sub_succ y 32 (by simpa using hy) i
  simpa using this
 have hxi : ∀ i, x.testBit i = true → i < 32 := fun i h => by
  rcases Nat.lt_or_ge i 32 with h1 | h1
  · exact h1
  · have := Nat.testBit_lt_two_pow (x := x) (i := i) (Nat.lt_of_lt_of_le hx (by
     have := Nat.pow_le_pow_right (n := 2) (by omega) h1
     simpa using this))
    rw [this] at h
    cases h
 constructor
 · intro h
   apply Nat.eq_of_testBit_eq
   intro i
   rw [Nat.testBit_and]
   have hi := congrArg (fun z : Nat => z.testBit i) h
   simp only [Nat.testBit_and, hb, Nat.zero_testBit] at hi
   cases hxb : x.testBit i with
   | false => rfl
   | true =>
     have := hxi i hxb
     rw [hxb] at hi
     simpa [this] using hi
 · intro h
   apply Nat.eq_of_testBit_eq
   intro i
   rw [Nat.testBit_and, hb, Nat.zero_testBit]
   have hi := congrArg (fun z : Nat => z.testBit i) h
   simp only [Nat.testBit_and] at hi
   cases hxb : x.testBit i with
   | false => rfl
   | true =>
     rw [hxb] at hi
     have hyb : y.testBit i = true := by simpa using hi
     simp [hyb]
theorem under_iff {xs ys : List Nat} (hx : small xs) (hy : small ys) : (∀ j, j < xs.length → xs.getD j 0 &&& ys.getD j 0 = xs.getD j 0) ↔ val xs &&& val ys = val xs := by
 induction xs generalizing ys with
 | nil => simp [val]
 | cons x xs ih =>
   obtain ⟨h1, h2⟩ := small_cons.1 hx
   obtain ⟨y, ys', hys, hyl, hysm⟩ : ∃ y ys', (∀ j, ys.getD j 0 = (y :: ys').getD j 0) ∧ val ys = val (y :: ys') ∧ small (y :: ys') := by
    cases ys with
    | nil => exact ⟨0, [], fun j => by cases j <;> simp, by simp [val], small_cons.2 ⟨by omega, small_nil⟩⟩
    | cons y ys => exact ⟨y, ys, fun _ => rfl, rfl, hy⟩
   obtain ⟨h3, h4⟩ := small_cons.1 hysm
   rw [hyl, val_cons, val_cons, and_split x y _ _ h1 h3]
   have ih' := ih h2 h4
   constructor
   · intro h
     have a := h 0 (by simp)
     rw [hys] at a
     simp only [List.getD_cons_zero] at a
     have b := ih'.1 (fun j hj => by
      have := h (j + 1) (by simpa using hj)
      rw [hys] at this
      simpa using this)
     rw [a, b]
   · intro h
     have hle : x &&& y ≤ x := Nat.and_le_left
     have hlt : x &&& y < 4294967296 := by omega
     have a : x &&& y = x := by omega
     have b : val xs &&& val ys' = val xs := by omega
     intro j hj
     rw [hys]
     cases j with
     | zero => simpa using a
     | succ j => simpa using ih'.2 b j (by simpa using hj)
theorem under_len {xs ys : List Nat} (cx : canon xs) (cy : canon ys) (h : ys.length < xs.length) : ¬ val xs &&& val ys = val xs := by
 intro e
 have h1 := cmp_len cy.1 cx h
 have h2 : val xs &&& val ys ≤ val ys := Nat.and_le_right
 omega
set_option maxHeartbeats 1000000 in
set_option maxRecDepth 100000 in
theorem Under_ok (A A' : Option Addr) (n c n' c' : Nat) (xs ys : List Nat) (w : World) (h : Rd w A n xs) (h' : Rd w A' n' ys) (vx : validB false xs = true) (vy : validB false ys = true) :
 Calls Try.prog 42 #[.agg #[.bool false, .slice A n c], .agg #[.bool false, .slice A' n' c']] w (fun e w' => e = .returned (.tuple #[.bool (decide (val xs &&& val ys = val xs)), .int .i64 0]) ∧ Below w.heap.size w w') := by
 have VX := Lib.hid (valid_canon h.sm vx)
 have VY := Lib.hid (valid_canon h'.sm vy)
 have HV := Lib.hid (show (validB false xs && validB false ys) = true by rw [vx, vy]; rfl)
 have hn := VX.out.2.1
 have hn' := VY.out.2.1
 rw [h.len] at hn
 rw [h'.len] at hn'
 have HX := Lib.hid h.len
 have HY := Lib.hid h'.len
 have hsx := h.sm
 have hsy := h'.sm
 have HU := Lib.hid (under_iff hsx hsy)
 have HW := Lib.hid (under_len VX.out.1 VY.out.1)
 clear vx vy
 go_enter Try.func42, Try.ntmps42
 go_wp2_with fail
 have E := (Env2.start w false false A A' n c n' c').alloc (.cells #[.bool false, .slice A n c, .bool false, .slice A' n' c'] 24)
 refine (allValid_c (w.heap.size + 1 + 1) false false A A' n c n' c' xs ys _ (h.below E.below) (h'.below E.below) (by simp) (by go_simp) (by go_simp) (by go_simp) (by go_simp)).mono ?_
 rintro e w1 ⟨rfl, hb⟩
 rw [HV.out]
 have E1 := Lib.hid (E.next hb)
 clear E hb
 have a0 := E1.out.a0
 have a1 := E1.out.a1
 have b0 := E1.out.b0
 have b1 := E1.out.b1
 by_cases hnn : n' < n
 · have HF := Lib.hid (HW.out (by rw [HX.out, HY.out]; exact hnn))
   clear hsx hsy
   go_wp2
   go_ret2
   exact ⟨by rw [decide_eq_false HF.out]; rfl, E1.out.below⟩
 · have hcell : 0 < n → ∃ b o, A = some ⟨b, o, none⟩ ∧ b < w1.heap.size ∧ ∀ k, k < n → w1.cell? ⟨b, o + k, none⟩ = some (.int .u32 ((xs.getD k 0 : Nat) : Int)) := (h.below E1.out.below).at_
   have hcell' : 0 < n' → ∃ b o, A' = some ⟨b, o, none⟩ ∧ b < w1.heap.size ∧ ∀ k, k < n' → w1.cell? ⟨b, o + k, none⟩ = some (.int .u32 ((ys.getD k 0 : Nat) : Int)) := (h'.below E1.out.below).at_
   have CA := Lib.hid hcell
   have CB := Lib.hid hcell'
   clear hcell hcell' h h'
   go_wp2
   go_loop [29] (fun v => ∃ i : Nat, v = .int .i64 i ∧ i ≤ n ∧ ∀ j, j < i → xs.getD j 0 &&& ys.getD j 0 = xs.getD j 0) (fun v => n - (intOf v).toNat)
   case atStart => exact ⟨0, rfl, Nat.zero_le _, fun j hj => by omega⟩
   case round =>
    obtain ⟨i, rfl, hi, hall⟩ := hrel
    have HA := Lib.hid hall
    clear hall
    by_cases hin : i < n
    · obtain ⟨b, o, rfl, _, hca⟩ := CA.out (by omega)
      obtain ⟨b', o', rfl, _, hcb⟩ := CB.out (by omega)
      have hci := hca i hin
      have hdi := hcb i (by omega)
      have hx1 := small_get hsx i
      have hy1 := small_get hsy i
      have NU := Lib.hid (not_under _ _ hy1 hx1)
      obtain ⟨x, hx2⟩ : ∃ x, x = xs.getD i 0 := ⟨_, rfl⟩
      obtain ⟨y, hy2⟩ : ∃ y, y = ys.getD i 0 := ⟨_, rfl⟩
      have HX2 := Lib.hid hx2
      have HY2 := Lib.hid hy2
      rw [← hx2, ← hy2] at NU
      rw [← hx2] at hci hx1
      rw [← hy2] at hdi hy1
      have han := u32_andNot_nat x y hx1 hy1
      obtain ⟨z, hz⟩ : ∃ z, z = x &&& (4294967295 - y) := ⟨_, rfl⟩
      rw [← hz] at han NU
      clear hx2 hy2 hca hcb hsx hsy hz
      by_cases hz0 : z = 0
      · have t : ((z : Int) != 0) = false := by rw [hz0]; rfl
        have HN := Lib.hid (NU.out.1 hz0)
        clear hz0
        go_wp2
        go_round
        case measure => simp [intOf]; omega
        case rel => exact ⟨i + 1, by go_num, by omega, fun j hj => by
         by_cases hji : j = i
         · subst hji; rw [← HX2.out, ← HY2.out]; exact HN.out
         · exact HA.out j (by omega)⟩
      · have t : ((z : Int) != 0) = true := by rw [bne_iff_ne]; omega
        have HF := Lib.hid (show ¬ val xs &&& val ys = val xs from fun e => hz0 (NU.out.2 (by
         have := HU.out.2 e i (by rw [HX.out]; exact hin)
         rw [HX2.out, HY2.out]; exact this)))
        clear hz0
        go_wp2
        go_ret2
        exact ⟨by rw [decide_eq_false HF.out]; rfl, E1.out.below⟩
    · have HF := Lib.hid (HU.out.1 (fun j hj => HA.out j (by rw [HX.out] at hj; omega)))
      go_wp2
      go_ret2
      exact ⟨by rw [decide_eq_true HF.out]; rfl, E1.out.below⟩
structure Env1 (w W : World) (s : Bool) (A : Option Addr) (n c : Nat) : Prop where
 size : w.heap.size + 2 ≤ W.heap.size
 a0 : W.cell? ⟨w.heap.size, 0, none⟩ = some (.bool s)
 a1 : W.cell? ⟨w.heap.size, 1, none⟩ = some (.slice A n c)
 r0 : W.cell? ⟨w.heap.size + 1, 0, none⟩ = some (.bool false)
 r1 : W.cell? ⟨w.heap.size + 1, 1, none⟩ = some (.slice none 0 0)
 f0 : W.frozen? ⟨w.heap.size + 1, 0, none⟩ = false
 f1 : W.frozen? ⟨w.heap.size + 1, 1, none⟩ = false
 below : Below w.heap.size w W
theorem Env1.start (w : World) (s : Bool) (A : Option Addr) (n c : Nat) :
 Env1 w ((w.alloc (.cells #[.bool s, .slice A n c] 24)).alloc (.cells #[.bool false, .slice none 0 0] 24)) s A n c :=
 ⟨by simp, by go_simp, by go_simp, by go_simp, by go_simp, by go_simp, by go_simp, (((Below.refl _ _).alloc (Nat.le_refl _) _).alloc (by simp) _)⟩
theorem Env1.next {w W w1 : World} {s : Bool} {A : Option Addr} {n c : Nat} (h : Env1 w W s A n c) (hb : Below W.heap.size W w1) : Env1 w w1 s A n c := by
 have hz := h.size
 have hz1 := hb.size
 exact ⟨by omega, (hb.cell (p := ⟨w.heap.size, 0, none⟩) (by simp; omega)).trans h.a0, (hb.cell (p := ⟨w.heap.size, 1, none⟩) (by simp; omega)).trans h.a1,
  (hb.cell (p := ⟨w.heap.size + 1, 0, none⟩) (by simp; omega)).trans h.r0, (hb.cell (p := ⟨w.heap.size + 1, 1, none⟩) (by simp; omega)).trans h.r1,
  (hb.frozen (p := ⟨w.heap.size + 1, 0, none⟩) (by simp; omega)).trans h.f0, (hb.frozen (p := ⟨w.heap.size + 1, 1, none⟩) (by simp; omega)).trans h.f1,
  h.below.trans (hb.mono (by omega))⟩
theorem Env1.alloc {w W : World} {s : Bool} {A : Option Addr} {n c : Nat} (h : Env1 w W s A n c) (o : Obj) : Env1 w (W.alloc o) s A n c := h.next ((Below.refl _ _).alloc (Nat.le_refl _) o)
theorem Env1.drewN {w W : World} {s : Bool} {A : Option Addr} {n c : Nat} (h : Env1 w W s A n c) (k : Nat) : Env1 w (W.drewN k) s A n c := h.next (below_drewN (Below.refl _ _) k)
set_option maxHeartbeats 400000 in
theorem fits_c (s : Bool) (A : Option Addr) (n c : Nat) (w : World) : Calls Try.prog 12 #[.agg #[.bool s, .slice A n c]] w fun e w' => e = .returned (.bool (decide (n ≤ 4096))) ∧ Below w.heap.size w w' := by
 by_cases h : n ≤ 4096
 · have H := Lib.hid (show decide (n ≤ 4096) = true from decide_eq_true h)
   go_enter Try.func12, Try.ntmps12
   go_wp2
   go_ret
   exact ⟨by rw [H.out]; simp; omega, below_alloc _ _⟩
 · have H := Lib.hid (show decide (n ≤ 4096) = false from decide_eq_false h)
   go_enter Try.func12, Try.ntmps12
   go_wp2
   go_ret
   exact ⟨by rw [H.out]; simp; omega, below_alloc _ _⟩
end Go.Proofs.Yteabokkofoomkaa
set_option maxRecDepth 100000
namespace Go.Proofs.Yteabokkofoomkaa
open Go.RowKit Go.Shelf Go.Deep
theorem BxP.oth {W : World} {g : Nat} {V : Int} {A : Option Addr} {n c : Nat} (h : BxP W g V A n c) {g' : Nat} (hne : g' ≠ g) (u v : Value) : BxP ((W.setCell ⟨g', 0, none⟩ u).setCell ⟨g', 1, none⟩ v) g V A n c :=
 ⟨by simpa [World.setCell] using h.lt, cell_two hne h.c0, cell_two hne h.c1⟩
theorem BxT.oth {W : World} {g : Nat} {s : Bool} {A : Option Addr} {n c : Nat} {B : Option Addr} {m d : Nat} (h : BxT W g s A n c B m d) {g' : Nat} (hne : g' ≠ g) (u v : Value) : BxT ((W.setCell ⟨g', 0, none⟩ u).setCell ⟨g', 1, none⟩ v) g s A n c B m d :=
 ⟨by simpa [World.setCell] using h.lt, cell_two hne h.c0, cell_two hne h.c1, cell_two hne h.c2⟩
structure VN (W : World) (g : Nat) (z : Int) (t : Bool) (B : Option Addr) (m d : Nat) : Prop where
 nv : NV W g t B m d
 is : Is W z t B m d
theorem VN.next {W W' : World} {g : Nat} {z : Int} {t : Bool} {B : Option Addr} {m d : Nat} (h : VN W g z t B m d) (hb : Below W.heap.size W W') : VN W' g z t B m d := ⟨h.nv.next hb, h.is.below hb⟩
theorem VN.oth {W : World} {g : Nat} {z : Int} {t : Bool} {B : Option Addr} {m d : Nat} (h : VN W g z t B m d) {g' : Nat} {t' : Bool} {B' : Option Addr} {m' d' : Nat} (h' : NV W g' t' B' m' d') (hne : g' ≠ g) (u v : Value) : VN ((W.setCell ⟨g', 0, none⟩ u).setCell ⟨g', 1, none⟩ v) g z t B m d :=
 ⟨h.nv.oth hne u v, h.is.store h'.r0 h'.r1 u v⟩
theorem VN.put {W : World} {g : Nat} {t : Bool} {B : Option Addr} {m d : Nat} (h : NV W g t B m d) {z' : Int} {t' : Bool} {B' : Option Addr} {m' d' : Nat} (h' : Is W z' t' B' m' d') : VN ((W.setCell ⟨g, 0, none⟩ (.bool t')).setCell ⟨g, 1, none⟩ (.slice B' m' d')) g z' t' B' m' d' :=
 ⟨h.put t' B' m' d', h'.store h.r0 h.r1 _ _⟩
structure EV (w W : World) (g : Nat) (V : Int) (A : Option Addr) (n c : Nat) (zO : Int) (tO : Bool) (BO : Option Addr) (mO dO : Nat) (zA : Int) (tA : Bool) (BA : Option Addr) (mA dA : Nat) : Prop where
 low : Below w.heap.size w W
 bx : BxP W g V A n c
 rs : NV W (g + 1) false none 0 0
 o : VN W (g + 2) zO tO BO mO dO
 a : VN W (g + 3) zA tA BA mA dA
theorem EV.next {w W W' : World} {g : Nat} {V : Int} {A : Option Addr} {n c : Nat} {zO : Int} {tO : Bool} {BO : Option Addr} {mO dO : Nat} {zA : Int} {tA : Bool} {BA : Option Addr} {mA dA : Nat} (h : EV w W g V A n c zO tO BO mO dO zA tA BA mA dA) (hb : Below W.heap.size W W') : EV w W' g V A n c zO tO BO mO dO zA tA BA mA dA :=
 ⟨h.low.trans (hb.mono h.low.size), h.bx.next hb, h.rs.next hb, h.o.next hb, h.a.next hb⟩
theorem EV.oth {w W : World} {g : Nat} {V : Int} {A : Option Addr} {n c : Nat} {zO : Int} {tO : Bool} {BO : Option Addr} {mO dO : Nat} {zA : Int} {tA : Bool} {BA : Option Addr} {mA dA : Nat} (h : EV w W g V A n c zO tO BO mO dO zA tA BA mA dA) (hw : w.heap.size ≤ g) {g' : Nat} {t' : Bool} {B' : Option Addr} {m' d' : Nat} (h' : NV W g' t' B' m' d') (hne : g + 3 < g') (u v : Value) : EV w ((W.setCell ⟨g', 0, none⟩ u).setCell ⟨g', 1, none⟩ v) g V A n c zO tO BO mO dO zA tA BA mA dA :=
 ⟨below_store h.low (by omega) u v, h.bx.oth (by omega) u v, h.rs.oth (by omega) u v, h.o.oth h' (by omega) u v, h.a.oth h' (by omega) u v⟩
theorem raw_le {s : Bool} {xs : List Nat} (h : validB s xs = true) : xs.length ≤ 4096 := by
 unfold validB at h
 split at h
 · omega
 · simp at h; omega
def degP (ts : List Trm) : Int := if ts.length = 0 then -1 else sumI (trmAt ts 0).es
def degV (V : Int) (ts : List Trm) : Int := if validP V ts = true then degP ts else -1
set_option maxHeartbeats 2000000 in
theorem polyDegree_c (V : Int) (A : Option Addr) (n c : Nat) (ts : List Trm) (w : World) (h : RdT w A n ts) :
 Calls Try.prog 34 #[aggP V A n c] w fun e w' => e = .returned (.int .i64 (degV V ts)) ∧ Below w.heap.size w w' := by
 have HI := Lib.hid h
 have HL := Lib.hid h.len
 have P := Lib.hid (bel_alloc w (boxP V A n c))
 have X := Lib.hid (BxP.new w V A n c)
 clear h
 go_enter Try.func34, Try.ntmps34
 go_upto_region 1 with (fail)
 generalize w.alloc (boxP V A n c) = W0 at P X ⊢
 obtain ⟨g, hg⟩ : ∃ g, g = w.heap.size := ⟨_, rfl⟩
 rw [← hg] at X ⊢
 clear hg
 have a0 := X.out.c0
 have a1 := X.out.c1
 go_wp2_with fail
 refine (polyValid_c V A n c ts _ (HI.out.below P.out)).mono ?_
 rintro e w1 ⟨rfl, hb⟩
 replace P := Lib.hid (P.out.trans (hb.mono P.out.size))
 replace X := Lib.hid (X.out.next hb)
 clear hb a0 a1
 obtain ⟨v, hv⟩ : ∃ v, v = validP V ts := ⟨_, rfl⟩
 rw [← hv]
 have HV := Lib.hid hv
 clear hv
 cases v with
 | false =>
   have HF := Lib.hid (show degV V ts = -1 by unfold degV; rw [← HV.out]; rfl)
   go_wp2
   go_ret
   exact ⟨by rw [HF.out] <;> rfl, P.out⟩
 | true =>
   have HD := Lib.hid (show degV V ts = degP ts by unfold degV; rw [← HV.out]; rfl)
   have a1 := X.out.c1
   by_cases hn : n = 0
   · have t0 : ((n : Int) == 0) = true := by rw [hn]; rfl
     have HF := Lib.hid (show degV V ts = -1 by rw [HD.out]; unfold degP; rw [if_pos (by rw [HL.out]; exact hn)])
     clear hn
     go_wp2
     go_ret
     exact ⟨by rw [HF.out] <;> rfl, P.out⟩
   · have t0 : ((n : Int) == 0) = false := by rw [beq_eq_false_iff_ne]; omega
     have HF := Lib.hid (show degV V ts = sumI (trmAt ts 0).es by rw [HD.out]; unfold degP; rw [if_neg (by rw [HL.out]; exact hn)])
     obtain ⟨bT, oT, rfl, hblt, hcell⟩ := HI.out.at_ (by omega)
     obtain ⟨A1, n1, c1, B1, m1, d1, hT0⟩ := hcell 0 (by omega)
     have T0 := Lib.hid (TrA.mk hblt hT0)
     have HVT := Lib.hid (vp_at HV.out.symm (k := 0) (by rw [HL.out]; omega))
     have hn0 : (0 : Int) < (n : Int) := by omega
     have hn1 : 0 < n := by omega
     clear hcell hT0 hblt hn
     have TW := Lib.hid (T0.out.next P.out)
     have c2 := TW.out.is.c2
     rw [Nat.zero_mul, Nat.add_zero] at c2
     go_wp2_with fail
     refine (degree_c B1 m1 d1 (trmAt ts 0).es _ TW.out.is.ri (vt_exps HVT.out).1 (by have e1 := TW.out.is.ri.len; have e2 := (vt_exps HVT.out).2; have e3 := vp_bounds HV.out.symm; omega)).mono ?_
     rintro e w2 ⟨rfl, hw⟩
     subst hw
     go_wp2
     go_ret
     exact ⟨by rw [HF.out] <;> rfl, P.out⟩
structure Ply where
 V : Int
 ts : List Trm
def plyAt (ps : List Ply) (k : Nat) : Ply := ps.getD k ⟨0, []⟩
structure PlyIs (w : World) (b o : Nat) (p : Ply) (A : Option Addr) (n c : Nat) : Prop where
 c0 : w.cell? ⟨b, o, none⟩ = some (.int .i64 p.V)
 c1 : w.cell? ⟨b, o + 1, none⟩ = some (.slice A n c)
 rt : RdT w A n p.ts
 nc : n ≤ c
 cm : c ≤ 9223372036854775807
theorem PlyIs.below {w w' : World} {b o : Nat} {p : Ply} {A : Option Addr} {n c : Nat} (h : PlyIs w b o p A n c) (hlt : b < w.heap.size) (hb : Below w.heap.size w w') : PlyIs w' b o p A n c :=
 ⟨(hb.cell (p := ⟨b, o, none⟩) hlt).trans h.c0, (hb.cell (p := ⟨b, o + 1, none⟩) hlt).trans h.c1, h.rt.below hb, h.nc, h.cm⟩
structure RdP (w : World) (A : Option Addr) (n : Nat) (ps : List Ply) : Prop where
 len : ps.length = n
 at_ : 0 < n → ∃ b o, A = some ⟨b, o, none⟩ ∧ b < w.heap.size ∧ ∀ k, k < n → ∃ A1 n1 c1, PlyIs w b (o + k * 2) (plyAt ps k) A1 n1 c1
theorem RdP.below {w w' : World} {A : Option Addr} {n : Nat} {ps : List Ply} (h : RdP w A n ps) (hb : Below w.heap.size w w') : RdP w' A n ps := by
 refine ⟨h.len, fun h0 => ?_⟩
 obtain ⟨b, o, e, hlt, hc⟩ := h.at_ h0
 refine ⟨b, o, e, Nat.lt_of_lt_of_le hlt hb.size, fun k hk => ?_⟩
 obtain ⟨A1, n1, c1, ht⟩ := hc k hk
 exact ⟨A1, n1, c1, ht.below hlt hb⟩
structure Lnk where
 kind : Int
 vs : List Int
 ps : List Ply
def lnkAt (ls : List Lnk) (k : Nat) : Lnk := ls.getD k ⟨0, [], []⟩
structure LnkIs (w : World) (b o : Nat) (l : Lnk) (B : Option Addr) (m d : Nat) (C : Option Addr) (p q : Nat) : Prop where
 c0 : w.cell? ⟨b, o, none⟩ = some (.int .i64 l.kind)
 c1 : w.cell? ⟨b, o + 1, none⟩ = some (.slice B m d)
 c2 : w.cell? ⟨b, o + 2, none⟩ = some (.slice C p q)
 ri : RdI w B m l.vs
 rp : RdP w C p l.ps
 md : m ≤ d
 dm : d ≤ 9223372036854775807
 pq : p ≤ q
 qm : q ≤ 9223372036854775807
theorem LnkIs.below {w w' : World} {b o : Nat} {l : Lnk} {B : Option Addr} {m d : Nat} {C : Option Addr} {p q : Nat} (h : LnkIs w b o l B m d C p q) (hlt : b < w.heap.size) (hb : Below w.heap.size w w') : LnkIs w' b o l B m d C p q :=
 ⟨(hb.cell (p := ⟨b, o, none⟩) hlt).trans h.c0, (hb.cell (p := ⟨b, o + 1, none⟩) hlt).trans h.c1, (hb.cell (p := ⟨b, o + 2, none⟩) hlt).trans h.c2, h.ri.below hb, h.rp.below hb, h.md, h.dm, h.pq, h.qm⟩
structure RdL (w : World) (A : Option Addr) (n : Nat) (ls : List Lnk) : Prop where
 len : ls.length = n
 at_ : 0 < n → ∃ b o, A = some ⟨b, o, none⟩ ∧ b < w.heap.size ∧ ∀ k, k < n → ∃ B1 m1 d1 C1 p1 q1, LnkIs w b (o + k * 3) (lnkAt ls k) B1 m1 d1 C1 p1 q1
theorem RdL.below {w w' : World} {A : Option Addr} {n : Nat} {ls : List Lnk} (h : RdL w A n ls) (hb : Below w.heap.size w w') : RdL w' A n ls := by
 refine ⟨h.len, fun h0 => ?_⟩
 obtain ⟨b, o, e, hlt, hc⟩ := h.at_ h0
 refine ⟨b, o, e, Nat.lt_of_lt_of_le hlt hb.size, fun k hk => ?_⟩
 obtain ⟨B1, m1, d1, C1, p1, q1, ht⟩ := hc k hk
 exact ⟨B1, m1, d1, C1, p1, q1, ht.below hlt hb⟩
def polysOf (kind : Int) : Int := if kind = 0 then 1 else if kind = 3 then 2 else 3
set_option maxHeartbeats 1000000 in
theorem polys_c (kind : Int) (w : World) : Calls Try.prog 50 #[.int .i64 kind] w fun e w' => e = .returned (.int .i64 (polysOf kind)) ∧ w' = w := by
 by_cases h0 : kind = 0
 · have H := Lib.hid (show polysOf kind = 1 by unfold polysOf; rw [if_pos h0])
   have t0 : (kind == 0) = true := by rw [h0]; rfl
   clear h0
   go_enter Try.func50, Try.ntmps50
   go_wp2
   go_ret
   exact ⟨by rw [H.out] <;> rfl, rfl⟩
 · have t0 : (kind == 0) = false := by rw [beq_eq_false_iff_ne]; exact h0
   by_cases h3 : kind = 3
   · have H := Lib.hid (show polysOf kind = 2 by unfold polysOf; rw [if_neg h0, if_pos h3])
     have t3 : (kind == 3) = true := by rw [h3]; rfl
     clear h0 h3
     go_enter Try.func50, Try.ntmps50
     go_wp2
     go_ret
     exact ⟨by rw [H.out] <;> rfl, rfl⟩
   · have H := Lib.hid (show polysOf kind = 3 by unfold polysOf; rw [if_neg h0, if_neg h3])
     have t3 : (kind == 3) = false := by rw [beq_eq_false_iff_ne]; exact h3
     clear h0 h3
     go_enter Try.func50, Try.ntmps50
     go_wp2
     go_ret
     exact ⟨by rw [H.out] <;> rfl, rfl⟩
end Go.Proofs.Yteabokkofoomkaa

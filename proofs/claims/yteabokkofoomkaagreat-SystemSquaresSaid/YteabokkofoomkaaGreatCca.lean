import Derived.Test.YteabokkofoomkaaGreatCbj
import Derived.Test.YteabokkofoomkaaGreatCbb
import Derived.BigRegion
/- system.Value -/
set_option maxRecDepth 100000
namespace Go.Proofs.YteabokkofoomkaaGreat
open Go.RowKit Go.Shelf Go.Deep
def val0 (l : Lnk) (ns : List Nmr) : Int := (valsZ l.ps (ownOf l.vs ns)).getD 0 0
def sqS (ls : List Lnk) (ns : List Nmr) : Nat → Int
  | 0 => 0
  | k + 1 => sqS ls ns k + val0 (lnkAt ls k) ns * val0 (lnkAt ls k) ns
def fitS (ls : List Lnk) (ns : List Nmr) (k : Nat) : Bool := decide (∀ i, i < k → (val0 (lnkAt ls i) ns * val0 (lnkAt ls i) ns).natAbs < pw 4096 ∧ (sqS ls ns (i + 1)).natAbs < pw 4096)
/-- no value of a link's polynomials is too long -/
def okLs (ls : List Lnk) (ns : List Nmr) : Prop := ∀ i, i < ls.length → ∀ j, j < (lnkAt ls i).ps.length → allV (plyAt (lnkAt ls i).ps j).ts (ownOf (lnkAt ls i).vs ns) (plyAt (lnkAt ls i).ps j).ts.length < pw 4096
theorem cell_stp {w w' : World} {b : Nat} {k : Int} (hc : Cc w b k) (hs : Stp b w w') {q : Nat} {o : Nat} {v : Value} (hlt : q < w.heap.size) (h : w.cell? ⟨q, o, none⟩ = some v) (hv : ∀ k z, v ≠ .int k z) : w'.cell? ⟨q, o, none⟩ = some v := by
  by_cases hb : q = b
  · subst hb
    by_cases ho : o = 0
    · subst ho
      rw [hc.c0] at h
      injection h with h
      exact absurd h.symm (hv _ _)
    · rw [hs.own _ ho]; exact h
  · rw [hs.cell (p := ⟨q, o, none⟩) hlt hb]; exact h
/-- a number's cells -/
structure CE (W : World) (b o : Nat) (s : Bool) (A : Option Addr) (n c : Nat) : Prop where
  lt : b < W.heap.size
  c0 : W.cell? ⟨b, o, none⟩ = some (.bool s)
  c1 : W.cell? ⟨b, o + 1, none⟩ = some (.slice A n c)
theorem CE.next {W W' : World} {b o : Nat} {s : Bool} {A : Option Addr} {n c : Nat} (h : CE W b o s A n c) (hb : Below W.heap.size W W') : CE W' b o s A n c :=
  ⟨Nat.lt_of_lt_of_le h.lt hb.size, (hb.cell (p := ⟨b, o, none⟩) h.lt).trans h.c0, (hb.cell (p := ⟨b, o + 1, none⟩) h.lt).trans h.c1⟩
theorem CE.stp {W W' : World} {b o : Nat} {s : Bool} {A : Option Addr} {n c : Nat} (h : CE W b o s A n c) {g : Nat} {k : Int} (hc : Cc W g k) (hs : Stp g W W') : CE W' b o s A n c :=
  ⟨Nat.lt_of_lt_of_le h.lt hs.size, cell_stp hc hs h.lt h.c0 (fun _ _ e => by cases e), cell_stp hc hs h.lt h.c1 (fun _ _ e => by cases e)⟩
def ValueP (ls : List Lnk) (ns : List Nmr) (w : World) (e : Ending) (w' : World) : Prop :=
  ∃ t B m d k, e = .returned (.tuple #[.agg #[.bool t, .slice B m d], .int .i64 k]) ∧ Below w.heap.size w w' ∧ ((k = 0 ∧ fitS ls ns ls.length = true ∧ Iv w' (sqS ls ns ls.length) t B m d) ∨ (k = 4 ∧ fitS ls ns ls.length = false ∧ t = false ∧ B = none ∧ m = 0 ∧ d = 0))
structure ValueQ (V : Int) (ls : List Lnk) (ns : List Nmr) (w : World) (e : Ending) (w' : World) : Prop where
  form : (validS V ls && allB ns) = false → Bad w 1 e w'
  arg : (validS V ls && allB ns) = true → (onlyEq ls && decide ((ns.length : Int) = V) && natB ns) = false → Bad w 2 e w'
  val : (validS V ls && allB ns) = true → (onlyEq ls && decide ((ns.length : Int) = V) && natB ns) = true → ValueP ls ns w e w'
theorem ValueQ.of_form {V : Int} {ls : List Lnk} {ns : List Nmr} {w w' : World} {e : Ending} (h : (validS V ls && allB ns) = false) (hb : Bad w 1 e w') : ValueQ V ls ns w e w' :=
  ⟨fun _ => hb, fun h' => absurd (h.symm.trans h') (by decide), fun h' => absurd (h.symm.trans h') (by decide)⟩
theorem ValueQ.of_arg {V : Int} {ls : List Lnk} {ns : List Nmr} {w w' : World} {e : Ending} (h : (validS V ls && allB ns) = true) (h2 : (onlyEq ls && decide ((ns.length : Int) = V) && natB ns) = false) (hb : Bad w 2 e w') : ValueQ V ls ns w e w' :=
  ⟨fun h' => absurd (h.symm.trans h') (by decide), fun _ _ => hb, fun _ h' => absurd (h2.symm.trans h') (by decide)⟩
theorem ValueQ.of_val {V : Int} {ls : List Lnk} {ns : List Nmr} {w w' : World} {e : Ending} (h : (validS V ls && allB ns) = true) (h2 : (onlyEq ls && decide ((ns.length : Int) = V) && natB ns) = true) (hb : ValueP ls ns w e w') : ValueQ V ls ns w e w' :=
  ⟨fun h' => absurd (h.symm.trans h') (by decide), fun _ h' => absurd (h2.symm.trans h') (by decide), fun _ _ => hb⟩
theorem only_at {ls : List Lnk} (h : onlyEq ls = true) {k : Nat} (hk : k < ls.length) : (lnkAt ls k).kind = 0 := by
  simp only [onlyEq, anyL, Bool.not_eq_true', decide_eq_false_iff_not] at h
  rcases Decidable.em ((lnkAt ls k).kind = 0) with q | q
  · exact q
  · exact absurd ⟨k, hk, by simp [noEq, q]⟩ h
/-- what stays in Value's loop -/
structure VV (w W : World) (b gr : Nat) (k : Int) (t : Bool) (B : Option Addr) (m d : Nat) : Prop where
  low : Below w.heap.size w W
  cc : Cc W b k
  sm : NV W (b + 1) t B m d
  rs : NV W gr false none 0 0
section
variable {w W W' : World} {b gr : Nat} {k : Int} {t : Bool} {B : Option Addr} {m d : Nat}
theorem VV.next (h : VV w W b gr k t B m d) (hb : Below W.heap.size W W') : VV w W' b gr k t B m d :=
  ⟨h.low.trans (hb.mono h.low.size), h.cc.below hb, h.sm.next hb, h.rs.next hb⟩
theorem VV.put (h : VV w W b gr k t B m d) {k' : Int} (h0 : w.heap.size ≤ b) (hr : gr ≠ b) (hs : Stp b W W') (hc : Cc W' b k') : VV w W' b gr k' t B m d :=
  ⟨h.low.trans (hs.below h.low.size h0), hc, h.sm.stp (by omega) hs, h.rs.stp hr hs⟩
theorem VV.sum (h : VV w W b gr k t B m d) (h0 : w.heap.size ≤ b) (hr : gr ≠ b + 1) (t' : Bool) (B' : Option Addr) (m' d' : Nat) : VV w ((W.setCell ⟨b + 1, 0, none⟩ (.bool t')).setCell ⟨b + 1, 1, none⟩ (.slice B' m' d')) b gr k t' B' m' d' :=
  ⟨below_store h.low (by omega) _ _, h.cc.two (by omega) _ _, h.sm.put t' B' m' d', h.rs.oth (by omega) _ _⟩
end
set_option maxHeartbeats 16000000 in
theorem sysValue_c (V : Int) (A : Option Addr) (n c : Nat) (ls : List Lnk) (X : Option Addr) (nx cx : Nat) (ns : List Nmr) (w : World) (h : RdL w A n ls) (h' : RdN w X nx ns) (hx : nx ≤ 9223372036854775807)
    (hT : validS V ls = true → (ns.length : Int) = V → okLs ls ns) :
    Calls Tryz.prog 27 #[aggS V A n c, .slice X nx cx] w (ValueQ V ls ns w) := by
  have k0 := bel_alloc w (boxS V A n c)
  have k1 := bel_alloc (w.alloc (boxS V A n c)) (.cells #[.bool false, .slice none 0 0] 58)
  have P := Lib.hid (k0.trans (k1.mono k0.size))
  have Y := Lib.hid ((BxY.new w V A n c).next k1)
  have RS := Lib.hid (NV.new (w.alloc (boxS V A n c)) false none 0 0)
  rw [World.size_alloc] at RS
  have HI := Lib.hid (And.intro h h')
  have HX := Lib.hid hx
  have HT := Lib.hid hT
  have HL := Lib.hid (And.intro h.len h'.len)
  clear k0 k1 h h' hx hT
  go_enter Tryz.func27, Tryz.ntmps27
  go_upto_region 1 with (fail)
  generalize (w.alloc (boxS V A n c)).alloc (.cells #[.bool false, .slice none 0 0] 58) = W0 at P Y RS ⊢
  obtain ⟨g, hg⟩ : ∃ g, g = w.heap.size := ⟨_, rfl⟩
  have HG := Lib.hid hg
  rw [← hg] at Y RS ⊢
  clear hg
  have a0 := Y.out.c0
  have a1 := Y.out.c1
  go_wp2_with fail
  refine (sysValid_c V A n c ls _ (HI.out.1.below P.out)).mono ?_
  rintro e w1 ⟨rfl, hb⟩
  replace P := Lib.hid (P.out.trans (hb.mono P.out.size))
  replace Y := Lib.hid (Y.out.next hb)
  replace RS := Lib.hid (RS.out.next hb)
  clear hb a0 a1
  obtain ⟨v, hv⟩ : ∃ v, v = validS V ls := ⟨_, rfl⟩
  rw [← hv]
  have HV := Lib.hid hv
  clear hv
  cases v with
  | false =>
    have HF := Lib.hid (show (validS V ls && allB ns) = false by rw [← HV.out]; rfl)
    have r0 := RS.out.r0
    have r1 := RS.out.r1
    have f0 := RS.out.f0
    have f1 := RS.out.f1
    go_wp2
    have Q := RS.out.put false none 0 0
    have q0 := Q.r0
    have q1 := Q.r1
    refine bodyPost_ret (v := .tuple #[.agg #[.bool false, .slice none 0 0], .int .i64 1]) (by simp [results, Tryz.results27, go_sem, q0, q1]) rfl ?_
    exact ValueQ.of_form HF.out ⟨rfl, below_store P.out (by have := HG.out; omega) _ _⟩
  | true =>
  go_wp2_with fail
  refine (calcValid_c X nx cx ns _ (HI.out.2.below P.out) HX.out).mono ?_
  rintro e w2 ⟨rfl, hb⟩
  replace P := Lib.hid (P.out.trans (hb.mono P.out.size))
  replace Y := Lib.hid (Y.out.next hb)
  replace RS := Lib.hid (RS.out.next hb)
  clear hb
  obtain ⟨u, hu⟩ : ∃ v, v = allB ns := ⟨_, rfl⟩
  rw [← hu]
  have HU := Lib.hid hu
  clear hu
  cases u with
  | false =>
    have HF := Lib.hid (show (validS V ls && allB ns) = false by rw [← HV.out, ← HU.out]; rfl)
    have r0 := RS.out.r0
    have r1 := RS.out.r1
    have f0 := RS.out.f0
    have f1 := RS.out.f1
    go_wp2
    have Q := RS.out.put false none 0 0
    have q0 := Q.r0
    have q1 := Q.r1
    refine bodyPost_ret (v := .tuple #[.agg #[.bool false, .slice none 0 0], .int .i64 1]) (by simp [results, Tryz.results27, go_sem, q0, q1]) rfl ?_
    exact ValueQ.of_form HF.out ⟨rfl, below_store P.out (by have := HG.out; omega) _ _⟩
  | true =>
  have HVU := Lib.hid (show (validS V ls && allB ns) = true by rw [← HV.out, ← HU.out]; rfl)
  have a0 := Y.out.c0
  have a1 := Y.out.c1
  have HBD := Lib.hid (vs_bounds HV.out.symm)
  have hnn : n ≤ 20000 := by have h1 := HBD.out.2.2; have h2 := HL.out.1; omega
  go_wp2_with fail
  refine (onlyEq_c V A n c ls _ (HI.out.1.below P.out) (by omega)).mono ?_
  rintro e w3 ⟨rfl, hb⟩
  replace P := Lib.hid (P.out.trans (hb.mono P.out.size))
  replace Y := Lib.hid (Y.out.next hb)
  replace RS := Lib.hid (RS.out.next hb)
  clear hb a0 a1
  obtain ⟨u, hu⟩ : ∃ v, v = onlyEq ls := ⟨_, rfl⟩
  rw [← hu]
  have HO := Lib.hid hu
  clear hu
  cases u with
  | false =>
    have HF := Lib.hid (show (onlyEq ls && decide ((ns.length : Int) = V) && natB ns) = false by rw [← HO.out]; rfl)
    have r0 := RS.out.r0
    have r1 := RS.out.r1
    have f0 := RS.out.f0
    have f1 := RS.out.f1
    go_wp2
    have Q := RS.out.put false none 0 0
    have q0 := Q.r0
    have q1 := Q.r1
    refine bodyPost_ret (v := .tuple #[.agg #[.bool false, .slice none 0 0], .int .i64 2]) (by simp [results, Tryz.results27, go_sem, q0, q1]) rfl ?_
    exact ValueQ.of_arg HVU.out HF.out ⟨rfl, below_store P.out (by have := HG.out; omega) _ _⟩
  | true =>
  have a0 := Y.out.c0
  by_cases hm : (nx : Int) = V
  case neg =>
    have t0 : ((nx : Int) != V) = true := by rw [bne_iff_ne]; exact hm
    have HF := Lib.hid (show (onlyEq ls && decide ((ns.length : Int) = V) && natB ns) = false by
      rw [← HO.out, decide_eq_false (show ¬ (ns.length : Int) = V by rw [HL.out.2]; exact hm)]; rfl)
    clear hm
    have r0 := RS.out.r0
    have r1 := RS.out.r1
    have f0 := RS.out.f0
    have f1 := RS.out.f1
    go_wp2
    have Q := RS.out.put false none 0 0
    have q0 := Q.r0
    have q1 := Q.r1
    refine bodyPost_ret (v := .tuple #[.agg #[.bool false, .slice none 0 0], .int .i64 2]) (by simp [results, Tryz.results27, go_sem, q0, q1]) rfl ?_
    exact ValueQ.of_arg HVU.out HF.out ⟨rfl, below_store P.out (by have := HG.out; omega) _ _⟩
  case pos =>
  have t0 : ((nx : Int) != V) = false := by rw [hm]; exact bne_self_eq_false _
  have HM := Lib.hid hm
  clear hm
  go_wp2_with fail
  refine (calcNatural_c X nx cx ns _ (HI.out.2.below P.out) HX.out).mono ?_
  rintro e w4 ⟨rfl, hb⟩
  replace P := Lib.hid (P.out.trans (hb.mono P.out.size))
  replace Y := Lib.hid (Y.out.next hb)
  replace RS := Lib.hid (RS.out.next hb)
  clear hb a0 t0
  obtain ⟨u, hu⟩ : ∃ v, v = natB ns := ⟨_, rfl⟩
  rw [← hu]
  have HN := Lib.hid hu
  clear hu
  have HM2 := Lib.hid (show (ns.length : Int) = V by rw [HL.out.2]; exact HM.out)
  cases u with
  | false =>
    have HF := Lib.hid (show (onlyEq ls && decide ((ns.length : Int) = V) && natB ns) = false by rw [← HO.out, ← HN.out, decide_eq_true HM2.out]; rfl)
    have r0 := RS.out.r0
    have r1 := RS.out.r1
    have f0 := RS.out.f0
    have f1 := RS.out.f1
    go_wp2
    have Q := RS.out.put false none 0 0
    have q0 := Q.r0
    have q1 := Q.r1
    refine bodyPost_ret (v := .tuple #[.agg #[.bool false, .slice none 0 0], .int .i64 2]) (by simp [results, Tryz.results27, go_sem, q0, q1]) rfl ?_
    exact ValueQ.of_arg HVU.out HF.out ⟨rfl, below_store P.out (by have := HG.out; omega) _ _⟩
  | true =>
  have HOK := Lib.hid (show (onlyEq ls && decide ((ns.length : Int) = V) && natB ns) = true by rw [← HO.out, ← HN.out, decide_eq_true HM2.out]; rfl)
  have HT2 := Lib.hid (HT.out HV.out.symm HM2.out)
  have a1 := Y.out.c1
  have q0 := bel_alloc w4 (.cells #[.int .i64 0] 77)
  have q1 := bel_alloc (w4.alloc (.cells #[.int .i64 0] 77)) (.cells #[.bool false, .slice none 0 0] 58)
  obtain ⟨b, hb⟩ : ∃ b, b = w4.heap.size := ⟨_, rfl⟩
  have VS0 := Lib.hid (show VV w ((w4.alloc (.cells #[.int .i64 0] 77)).alloc (.cells #[.bool false, .slice none 0 0] 58)) b (g + 1) 0 false none 0 0 from by
    have hn := NV.new (w4.alloc (.cells #[.int .i64 0] 77)) false none 0 0
    rw [World.size_alloc, ← hb] at hn
    refine ⟨(P.out.trans (q0.mono P.out.size)).trans (q1.mono (Nat.le_trans P.out.size q0.size)), ?_, hn, (RS.out.next q0).next q1⟩
    rw [hb]
    exact ⟨by simp; omega, by go_simp, by go_simp⟩)
  have HB := Lib.hid (show w.heap.size ≤ b ∧ g + 1 < b by have h1 := P.out.size; have h2 := RS.out.lt; omega)
  have Y2 := Lib.hid ((Y.out.next q0).next q1)
  clear q0 q1 P Y RS HT
  go_upto_region 7 with (fail)
  rw [← hb]
  clear hb
  generalize (w4.alloc (.cells #[.int .i64 0] 77)).alloc (.cells #[.bool false, .slice none 0 0] 58) = W1 at VS0 Y2 ⊢
  clear a1
  have a1 := Y2.out.c1
  go_wp2
  clear a1 Y2
  go_loopw [39] (fun v wr => ∃ (j : Nat) (k : Int) (t7 : Bool) (B7 : Option Addr) (m7 d7 : Nat), v = .int .i64 (j : Int) ∧ j ≤ n ∧ VV w wr b (g + 1) k t7 B7 m7 d7 ∧ ((k = 0 ∧ fitS ls ns j = true ∧ Iv wr (sqS ls ns j) t7 B7 m7 d7) ∨ (k = 4 ∧ fitS ls ns j = false ∧ t7 = false ∧ B7 = none ∧ m7 = 0 ∧ d7 = 0))) (fun v _ => n - (intOf v).toNat)
  case atStart => exact ⟨0, 0, false, none, 0, 0, rfl, Nat.zero_le _, VS0.out, .inl ⟨rfl, decide_eq_true (fun i hi => absurd hi (by omega)), ⟨zero_is _, by show (0 : Int).natAbs < pw 4096; exact pw_pos 4096⟩⟩⟩
  case round =>
    obtain ⟨j, k, t7, B7, m7, d7, rfl, hj, hvv, hd⟩ := hrel
    clear VS0
    have V0 := Lib.hid hvv
    have HD := Lib.hid hd
    clear hvv hd
    by_cases hjn : j < n
    · have t1 : decide ((j : Int) < (n : Int)) = true := decide_eq_true (by omega)
      have t1n : decide (j < n) = true := decide_eq_true hjn
      have hjI : (j : Int) < (n : Int) := by omega
      obtain ⟨bL, oL, rfl, hltL, hcL⟩ := HI.out.1.at_ (by omega)
      obtain ⟨B1, m1, d1, C1, p1, q1, hK⟩ := hcL j hjn
      obtain ⟨l, hl⟩ : ∃ x, x = lnkAt ls j := ⟨_, rfl⟩
      rw [← hl] at hK
      have HLK := Lib.hid hl
      have hK2 := hK.below hltL V0.out.low
      have c0 := hK2.c0
      have c1 := hK2.c1
      have c2 := hK2.c2
      have HK := Lib.hid hK
      have hkd := only_at HO.out.symm (k := j) (by have := HL.out.1; omega)
      rw [← hl] at hkd
      obtain ⟨kind, vs, ps⟩ := l
      dsimp only at c0 hkd
      subst hkd
      clear hl hK hK2 hcL
      have k1 := bel_alloc wr (boxL 0 B1 m1 d1 C1 p1 q1)
      have XL := Lib.hid (BxL.new wr 0 B1 m1 d1 C1 p1 q1)
      have V2 := Lib.hid (V0.out.next k1)
      have HD2 := Lib.hid (show (k = 0 ∧ fitS ls ns j = true ∧ Iv (wr.alloc (boxL 0 B1 m1 d1 C1 p1 q1)) (sqS ls ns j) t7 B7 m7 d7) ∨ (k = 4 ∧ fitS ls ns j = false ∧ t7 = false ∧ B7 = none ∧ m7 = 0 ∧ d7 = 0) from HD.out.imp (fun q => ⟨q.1, q.2.1, q.2.2.below k1⟩) id)
      have hlk := vs_at HV.out.symm (k := j) (by have := HL.out.1; omega)
      rw [← HLK.out] at hlk
      have HVL := Lib.hid hlk
      have HLE := Lib.hid (vl_lens hlk)
      have HPL := Lib.hid (show p1 = 1 by
        have h1 := HLE.out.2.2.1
        have h2 : ps.length = p1 := HK.out.rp.len
        have h3 : polysOf 0 = 1 := by decide
        omega)
      clear k1 V0 HD hlk
      go_upto_region 10 with (fail)
      generalize wr.alloc (boxL 0 B1 m1 d1 C1 p1 q1) = W2 at XL V2 HD2 ⊢
      generalize wr.heap.size = gl at XL ⊢
      clear c0 c1 c2
      have c0 := XL.out.c0
      have c1 := XL.out.c1
      have c2 := XL.out.c2
      have HA := Lib.hid (show ∀ i, i < ps.length → allV (plyAt ps i).ts (ownOf vs ns) (plyAt ps i).ts.length < pw 4096 from by
        have h1 := HT2.out j (by have := HL.out.1; omega)
        rw [← HLK.out] at h1
        exact h1)
      have HKD := Lib.hid (show k = 0 ∨ k = 4 from HD2.out.imp (fun q => q.1) (fun q => q.1))
      go_wp2_with fail
      refine (values_c (if k = 0 then pw 4096 - 1 else pw 4096) b k w W2 0 B1 m1 d1 vs C1 p1 q1 ps X nx cx ns V V2.out.low HB.out.1 V2.out.cc (by
        rcases HKD.out with q | q
        · exact .inl q
        · exact .inr ⟨q, by rw [if_neg (by omega)]; exact Nat.le_refl _⟩) HK.out.ri HK.out.rp HI.out.2 HVL.out HM.out HU.out.symm (by have := HPL.out; omega) (by
        intro i hi
        have h1 := HA.out i hi
        split <;> omega)).mono ?_
      rintro e W3 ⟨A5, c5, k5, rs, rfl, hs, hc, hr, hst, hz⟩
      have h1l : ps.length = 1 := by have h2 : ps.length = p1 := HK.out.rp.len; have := HPL.out; omega
      rw [h1l] at hr ⊢
      obtain ⟨bV, oV, rfl, hltV, hcV⟩ := hr.at_ (by omega)
      obtain ⟨A6, n6, c6, hN⟩ := hcV 0 (by omega)
      obtain ⟨s6, hs6⟩ : ∃ x, x = (nmAt rs 0).s := ⟨_, rfl⟩
      have hN0 := hN.c0
      rw [← hs6] at hN0
      have CV := Lib.hid (show CE W3 bV oV s6 A6 n6 c6 from ⟨hltV, by have h := hN0; rwa [Nat.zero_mul, Nat.add_zero] at h, by have h := hN.c1; rwa [Nat.zero_mul, Nat.add_zero] at h⟩)
      obtain ⟨v, hv⟩ : ∃ x, x = val0 (lnkAt ls j) ns := ⟨_, rfl⟩
      have hk5 : k5 = 0 → k = 0 := fun q => (hz q).1
      have hk5' : k = 0 → k5 = 0 := fun q => by
        rcases hst with s | ⟨s, s2⟩
        · exact s
        · rw [if_pos q] at s2
          have := pw_pos 4096
          omega
      have hk54 : k5 = 0 ∨ k5 = 4 := hst.imp id (fun q => q.1)
      have HIV := Lib.hid (show k5 = 0 → Iv W3 v s6 A6 n6 c6 from fun q => by
        obtain ⟨-, z1, z2⟩ := hz q
        have z3 := z2 0 (by omega)
        have e1 : nmAt rs 0 = nmOf (pVal (plyAt ps 0).ts (ownOf vs ns)) := by
          rw [z1]
          have : 0 < (valsZ ps (ownOf vs ns)).length := by rw [valsZ_len]; omega
          simp [nmAt, valsZ, plyAt, List.getD_eq_getElem?_getD, List.getElem?_eq_getElem (show 0 < ps.length by omega)]
        have e2 : v = pVal (plyAt ps 0).ts (ownOf vs ns) := by
          rw [hv, ← HLK.out]
          exact valsZ_at (show 0 < ps.length by omega)
        have hrd := hN.rd
        rw [e1] at hrd
        rw [e2]
        exact ⟨⟨by rw [hs6, e1]; rfl, hrd.len.symm, hrd, hN.nc, hN.cm⟩, z3⟩)
      have HSV := Lib.hid (show k5 = 0 → fitS ls ns j = true ∧ Iv W3 (sqS ls ns j) t7 B7 m7 d7 from fun q => by
        rcases HD2.out with ⟨_, x2, x3⟩ | ⟨x1, _⟩
        · exact ⟨x2, x3.stp V2.out.cc hs⟩
        · have := hk5 q; omega)
      have HNF := Lib.hid (show k5 = 4 → fitS ls ns j = false from fun q => by
        rcases HD2.out with ⟨x1, _⟩ | ⟨_, x2, _⟩
        · have := hk5' x1; omega
        · exact x2)
      have V3 := Lib.hid (V2.out.put HB.out.1 (by have := HB.out.2; omega) hs hc)
      have HK5 := Lib.hid hk54
      have HVE := Lib.hid hv
      have hnb : g + 1 ≠ b + 1 := by have := HB.out.2; omega
      clear hs hc hr hst hz hcV hN hN0 hs6 hv hk5 hk5' hk54 V2 HD2 XL c0 c1 c2 hltV
      obtain ⟨S, hS⟩ : ∃ x, x = sqS ls ns j := ⟨_, rfl⟩
      have HSE := Lib.hid hS.symm
      rw [← hS] at HSV
      clear hS
      go_upto_region 11 with (fail)
      refine wp_region_tail (S := (fun w' => w'.cell? ⟨(b + 1), 0, none⟩ = some (.bool t7) ∧ w'.cell? ⟨(b + 1), 1, none⟩ = some (.slice B7 m7 d7) ∧ w'.cell? ⟨bV, oV, none⟩ = some (.bool s6) ∧ w'.cell? ⟨bV, (oV + 1), none⟩ = some (.slice A6 n6 c6))) 9 (by kernel_rfl) (by kernel_rfl) (by intro c a d v w h; cases d <;> exact h) (⟨cell_drq V3.out.sm.r0, cell_drq V3.out.sm.r1, cell_drq CV.out.c0, cell_drq CV.out.c1⟩) (fun QT hT hP hHeld => ?_)
      simp only [List.extract_toArray, List.extract_eq_take_drop, List.drop_zero, Nat.sub_zero, List.take_succ_cons, List.take_zero]
      have HT := Lib.hid hT
      clear hT
      replace V3 := Lib.hid (V3.out.next (Below.refl W3.heap.size W3).drew)
      replace CV := Lib.hid (CV.out.next (Below.refl W3.heap.size W3).drew)
      replace HIV := Lib.hid (fun q => (HIV.out q).below (Below.refl W3.heap.size W3).drew)
      replace HSV := Lib.hid (fun q => And.intro (HSV.out q).1 ((HSV.out q).2.below (Below.refl W3.heap.size W3).drew))
      generalize W3.drew = D1 at V3 CV HIV HSV hHeld ⊢
      refine take_on (i := 0) (d := (some 46)) (v := ?v1) rfl rfl (by kernel_rfl) (by kernel_rfl) (by kernel_rfl) (fun c a w h => hP c a _ _ w h) (by rfl) ?h1 (by assumption) ?r1
      case h1 => intro w hSw; obtain ⟨h0, h1, h2, h3⟩ := hSw; go_simp; rfl
      simp only [Act.put, List.setIfInBounds_toArray, List.set_cons_zero, List.set_cons_succ]
      refine take_on (i := 1) (d := (some 47)) (v := ?v2) rfl rfl (by kernel_rfl) (by kernel_rfl) (by kernel_rfl) (fun c a w h => hP c a _ _ w h) (by rfl) ?h2 (by assumption) ?r2
      case h2 => intro w hSw; obtain ⟨h0, h1, h2, h3⟩ := hSw; go_simp; rfl
      simp only [Act.put, List.setIfInBounds_toArray, List.set_cons_zero, List.set_cons_succ]
      refine take_on (i := 2) (d := (some 48)) (v := ?v3) rfl rfl (by kernel_rfl) (by kernel_rfl) (by kernel_rfl) (fun c a w h => hP c a _ _ w h) (by rfl) ?h3 (by assumption) ?r3
      case h3 => intro w hSw; obtain ⟨h0, h1, h2, h3⟩ := hSw; go_simp; rfl
      simp only [Act.put, List.setIfInBounds_toArray, List.set_cons_zero, List.set_cons_succ]
      refine take_on (i := 3) (d := (some 49)) (v := ?v4) rfl rfl (by kernel_rfl) (by kernel_rfl) (by kernel_rfl) (fun c a w h => hP c a _ _ w h) (by rfl) ?h4 (by assumption) ?r4
      case h4 => intro w hSw; obtain ⟨h0, h1, h2, h3⟩ := hSw; go_simp; rfl
      simp only [Act.put, List.setIfInBounds_toArray, List.set_cons_zero, List.set_cons_succ]
      refine take_on (i := 4) (d := (some 50)) (v := ?v5) rfl rfl (by kernel_rfl) (by kernel_rfl) (by kernel_rfl) (fun c a w h => hP c a _ _ w h) (by rfl) ?h5 (by assumption) ?r5
      case h5 => intro w hSw; obtain ⟨h0, h1, h2, h3⟩ := hSw; go_simp; rfl
      simp only [Act.put, List.setIfInBounds_toArray, List.set_cons_zero, List.set_cons_succ]
      refine take_on (i := 5) (d := (some 51)) (v := ?v6) rfl rfl (by kernel_rfl) (by kernel_rfl) (by kernel_rfl) (fun c a w h => hP c a _ _ w h) (by rfl) ?h6 (by assumption) ?r6
      case h6 => intro w hSw; obtain ⟨h0, h1, h2, h3⟩ := hSw; go_simp; rfl
      simp only [Act.put, List.setIfInBounds_toArray, List.set_cons_zero, List.set_cons_succ]
      refine take_on (i := 6) (d := (some 52)) (v := ?v7) rfl rfl (by kernel_rfl) (by kernel_rfl) (by kernel_rfl) (fun c a w h => hP c a _ _ w h) (by rfl) ?h7 (by assumption) ?r7
      case h7 => intro w hSw; obtain ⟨h0, h1, h2, h3⟩ := hSw; go_simp; rfl
      simp only [Act.put, List.setIfInBounds_toArray, List.set_cons_zero, List.set_cons_succ]
      refine wpAnyH_ready (rs := [7]) (by kernel_rfl) (by simp) ?_
      refine AllReadyH.cons rfl (fun K hK => ?_) AllReadyH.nil
      go_simp
      obtain ⟨T1, hT1⟩ : ∃ x, x = if k5 = 0 then (v * v).natAbs else pw 4096 := ⟨_, rfl⟩
      refine (cMulZ_c T1 b k5 v v s6 s6 A6 A6 n6 c6 n6 c6 D1 V3.out.cc (HK5.out.imp id (fun q => ⟨q, by rw [hT1, if_neg (by omega)]; exact Nat.le_refl _⟩)) (fun q => by rw [hT1, if_pos q]; exact Nat.le_refl _) (fun q => ⟨HIV.out q, HIV.out q⟩)).mono ?_
      rintro e v2 ⟨t1, B1, m1, d1, k1, rfl, s1, cc1, h1, h2, h3⟩
      have VN := Lib.hid (V3.out.put HB.out.1 (by have := HB.out.2; omega) s1 cc1)
      have CN := Lib.hid (CV.out.stp V3.out.cc s1)
      have HSN := Lib.hid (show k1 = 0 → fitS ls ns j = true ∧ Iv v2 S t7 B7 m7 d7 from fun q => ⟨(HSV.out (h1 q).1).1, ((HSV.out (h1 q).1).2).stp V3.out.cc s1⟩)
      have HM1 := Lib.hid (show k1 = 0 → Iv v2 (v * v) t1 B1 m1 d1 from fun q => (h1 q).2)
      have HK1 := Lib.hid (show k1 = 0 ∨ (k1 = 4 ∧ fitS ls ns (j + 1) = false) from h2.imp id (fun q => ⟨q.1, by
        rcases HK5.out with z | z
        · have q2 := q.2
          rw [hT1, if_pos z] at q2
          exact decide_eq_false (fun r => by have r1 := (r j (by omega)).1; rw [← HVE.out] at r1; omega)
        · have r0 := HNF.out z
          exact decide_eq_false (fun r => by
            rw [show fitS ls ns j = true from decide_eq_true (fun i hi => r i (by omega))] at r0
            cases r0)⟩))
      clear V3 CV HSV HIV hHeld s1 cc1 h1 h2 h3 hT1 T1
      have V3 := VN
      have CV := CN
      have HSV := HSN
      clear VN CN HSN
      refine hK.out _ _ (⟨V3.out.sm.r0, V3.out.sm.r1, CV.out.c0, CV.out.c1⟩) (fun hHeld => ?_)
      clear hK K
      refine wpAnyH_ready (rs := [8]) (by kernel_rfl) (by simp) ?_
      refine AllReadyH.cons rfl (fun K hK => ?_) AllReadyH.nil
      go_simp
      obtain ⟨T2, hT2⟩ : ∃ x, x = if k1 = 0 then (S + v * v).natAbs else pw 4096 := ⟨_, rfl⟩
      refine (cAddZ_c T2 b k1 S (v * v) t7 t1 B7 B1 m7 d7 m1 d1 v2 V3.out.cc (HK1.out.imp id (fun q => ⟨q.1, by rw [hT2, if_neg (by omega)]; exact Nat.le_refl _⟩)) (fun q => by rw [hT2, if_pos q]; exact Nat.le_refl _) (fun q => ⟨(HSV.out q).2, HM1.out q⟩)).mono ?_
      rintro e v3 ⟨t2, B2, m2, d2, k2, rfl, s2, cc2, h1, h2, h3⟩
      have VN := Lib.hid (V3.out.put HB.out.1 (by have := HB.out.2; omega) s2 cc2)
      have CN := Lib.hid (CV.out.stp V3.out.cc s2)
      have HD := Lib.hid (show (k2 = 0 ∧ fitS ls ns (j + 1) = true ∧ Iv v3 (S + v * v) t2 B2 m2 d2) ∨ (k2 = 4 ∧ fitS ls ns (j + 1) = false ∧ t2 = false ∧ B2 = none ∧ m2 = 0 ∧ d2 = 0) from by
        by_cases z : k2 = 0
        · obtain ⟨z1, z2⟩ := h1 z
          refine .inl ⟨z, decide_eq_true (fun i hi => ?_), z2⟩
          by_cases e : i = j
          · rw [e]
            refine ⟨by rw [← HVE.out]; exact (HM1.out z1).sz, ?_⟩
            rw [sqS, ← HVE.out, HSE.out]
            exact z2.sz
          · exact of_decide_eq_true (HSV.out z1).1 i (by omega)
        · refine .inr ⟨(h2.resolve_left z).1, ?_, h3 z⟩
          rcases HK1.out with y | y
          · have q2 := (h2.resolve_left z).2
            rw [hT2, if_pos y] at q2
            exact decide_eq_false (fun r => by
              have r1 := (r j (by omega)).2
              rw [sqS, ← HVE.out, HSE.out] at r1
              omega)
          · exact y.2)
      clear V3 CV HSV HM1 HK1 hHeld s2 cc2 h1 h2 h3 hT2 T2
      have V3 := VN
      have CV := CN
      clear VN CN
      refine hK.out _ _ (⟨V3.out.sm.r0, V3.out.sm.r1, CV.out.c0, CV.out.c1⟩) (fun hHeld => ?_)
      clear hK K
      clear hHeld
      refine wpAnyH_done (by kernel_rfl) ?_ _
      refine HT.out _ _ ?_
      clear HT hP QT
      have r0 := V3.out.sm.r0
      have r1 := V3.out.sm.r1
      have f0 := V3.out.sm.f0
      have f1 := V3.out.sm.f1
      refine wpList_step fun K hK => ?_
      go_simp
      refine hK _ _ ?_
      clear hK K
      refine wpList_nil ?_
      have VN := Lib.hid (V3.out.sum HB.out.1 hnb t2 B2 m2 d2)
      have HDN := Lib.hid (show (k2 = 0 ∧ fitS ls ns (j + 1) = true ∧ Iv ((v3.setCell ⟨b + 1, 0, none⟩ (.bool t2)).setCell ⟨b + 1, 1, none⟩ (.slice B2 m2 d2)) (sqS ls ns (j + 1)) t2 B2 m2 d2) ∨ (k2 = 4 ∧ fitS ls ns (j + 1) = false ∧ t2 = false ∧ B2 = none ∧ m2 = 0 ∧ d2 = 0) from HD.out.imp (fun q => ⟨q.1, q.2.1, by rw [sqS, ← HVE.out, HSE.out]; exact q.2.2.two r0 r1 _ _⟩) id)
      clear r0 r1 f0 f1 V3 CV HD
      generalize (v3.setCell ⟨b + 1, 0, none⟩ (.bool t2)).setCell ⟨b + 1, 1, none⟩ (.slice B2 m2 d2) = W9 at VN HDN ⊢
      go_wp2
      go_roundw
      case measure => simp [intOf]; omega
      case rel => exact ⟨j + 1, k2, t2, B2, m2, d2, by go_num, by omega, VN.out, HDN.out⟩
    · have e : j = ls.length := by have := HL.out.1; omega
      have t1 : decide ((j : Int) < (n : Int)) = false := decide_eq_false (by omega)
      have t1n : decide (j < n) = false := decide_eq_false hjn
      rw [e] at HD
      clear e
      go_upto_region 13 with (fail)
      have b0 := V0.out.cc.c0
      have y0 := V0.out.sm.r0
      have y1 := V0.out.sm.r1
      have r0 := V0.out.rs.r0
      have r1 := V0.out.rs.r1
      have f0 := V0.out.rs.f0
      have f1 := V0.out.rs.f1
      have ne1 : b ≠ g + 1 := by have := HB.out.2; omega
      have ne2 : b + 1 ≠ g + 1 := by have := HB.out.2; omega
      go_region
      go_wp2
      have Q := V0.out.rs.put t7 B7 m7 d7
      have q0 := Q.r0
      have q1 := Q.r1
      refine bodyPost_ret (v := .tuple #[.agg #[.bool t7, .slice B7 m7 d7], .int .i64 k]) (by simp [results, Tryz.results27, go_sem, q0, q1]) rfl ?_
      exact ValueQ.of_val HVU.out HOK.out ⟨t7, B7, m7, d7, k, rfl, (below_store V0.out.low (by have := HG.out; omega) _ _).drew, HD.out.imp (fun q => ⟨q.1, q.2.1, (q.2.2.two r0 r1 _ _).below (Below.refl _ _).drew⟩) id⟩
end Go.Proofs.YteabokkofoomkaaGreat
/- the reference's Value of systems -/
set_option maxRecDepth 100000
namespace Go.Proofs.YteabokkofoomkaaGreat
open Go.RowKit Go.Shelf Go.Deep
def RValueP (ls : List Lnk) (ns : List Nmr) (w : World) (e : Ending) (w' : World) : Prop :=
  ∃ t B m d, e = .returned (.tuple #[.agg #[.bool t, .slice B m d], .bool (fitS ls ns ls.length)]) ∧ Below w.heap.size w w' ∧ (fitS ls ns ls.length = true → Iv w' (sqS ls ns ls.length) t B m d)
structure RQ (w W : World) (g go : Nat) (V : Int) (A : Option Addr) (n c : Nat) (t : Bool) (B : Option Addr) (m d : Nat) : Prop where
  low : Below w.heap.size w W
  bx : BxY W g V A n c
  rs : NV W (g + 1) false none 0 0
  o : NV W go t B m d
section
variable {w W W' : World} {g go : Nat} {V : Int} {A : Option Addr} {n c : Nat} {t : Bool} {B : Option Addr} {m d : Nat}
theorem RQ.next (h : RQ w W g go V A n c t B m d) (hb : Below W.heap.size W W') : RQ w W' g go V A n c t B m d :=
  ⟨h.low.trans (hb.mono h.low.size), h.bx.next hb, h.rs.next hb, h.o.next hb⟩
theorem BxY.oth (h : BxY W g V A n c) {g' : Nat} (hne : g' ≠ g) (u v : Value) : BxY ((W.setCell ⟨g', 0, none⟩ u).setCell ⟨g', 1, none⟩ v) g V A n c := by
  have h1 := BxP.oth (⟨h.lt, h.c0, h.c1⟩ : BxP W g V A n c) hne u v
  exact ⟨h1.lt, h1.c0, h1.c1⟩
theorem RQ.put (h : RQ w W g go V A n c t B m d) (hg : w.heap.size ≤ g ∧ g + 1 < go) (t' : Bool) (B' : Option Addr) (m' d' : Nat) : RQ w ((W.setCell ⟨go, 0, none⟩ (.bool t')).setCell ⟨go, 1, none⟩ (.slice B' m' d')) g go V A n c t' B' m' d' :=
  ⟨below_store h.low (by omega) _ _, h.bx.oth (by omega) _ _, h.rs.oth (by omega) _ _, h.o.put t' B' m' d'⟩
theorem RQ.oth3 (h : RQ w W g go V A n c t B m d) (hg : w.heap.size ≤ g ∧ g + 1 < go) {gs : Nat} (hs : go < gs) (u v : Value) : RQ w ((W.setCell ⟨gs, 0, none⟩ u).setCell ⟨gs, 1, none⟩ v) g go V A n c t B m d :=
  ⟨below_store h.low (by omega) _ _, h.bx.oth (by omega) _ _, h.rs.oth (by omega) _ _, h.o.oth (by omega) _ _⟩
end
theorem fit_next {ls : List Lnk} {ns : List Nmr} {j : Nat} (h : fitS ls ns j = true) (h1 : (val0 (lnkAt ls j) ns * val0 (lnkAt ls j) ns).natAbs < pw 4096) (h2 : (sqS ls ns (j + 1)).natAbs < pw 4096) : fitS ls ns (j + 1) = true :=
  decide_eq_true fun i hi => by
    by_cases e : i = j
    · subst e; exact ⟨h1, h2⟩
    · exact of_decide_eq_true h i (by omega)
theorem fit_not {ls : List Lnk} {ns : List Nmr} {j k : Nat} (hj : j < k) (h : ¬ ((val0 (lnkAt ls j) ns * val0 (lnkAt ls j) ns).natAbs < pw 4096 ∧ (sqS ls ns (j + 1)).natAbs < pw 4096)) : fitS ls ns k = false :=
  decide_eq_false fun q => h (q j hj)
set_option maxHeartbeats 16000000 in
theorem refSysValue_c (V : Int) (A : Option Addr) (n c : Nat) (ls : List Lnk) (X : Option Addr) (nx cx : Nat) (ns : List Nmr) (w : World) (h : RdL w A n ls) (h' : RdN w X nx ns)
    (hv : validS V ls = true) (hu : allB ns = true) (ho : onlyEq ls = true) (hm : (nx : Int) = V) (hT : okLs ls ns) :
    Calls Tryz.prog 28 #[aggS V A n c, .slice X nx cx] w (RValueP ls ns w) := by
  have k0 := bel_alloc w (boxS V A n c)
  have k1 := bel_alloc (w.alloc (boxS V A n c)) (.cells #[.bool false, .slice none 0 0] 58)
  have k2 := bel_alloc ((w.alloc (boxS V A n c)).alloc (.cells #[.bool false, .slice none 0 0] 58)) (.cells #[.bool false, .slice none 0 0] 58)
  have Q0 := Lib.hid (show RQ w (((w.alloc (boxS V A n c)).alloc (.cells #[.bool false, .slice none 0 0] 58)).alloc (.cells #[.bool false, .slice none 0 0] 58)) w.heap.size (w.heap.size + 1 + 1) V A n c false none 0 0 from by
    have n1 := NV.new (w.alloc (boxS V A n c)) false none 0 0
    have n2 := NV.new ((w.alloc (boxS V A n c)).alloc (.cells #[.bool false, .slice none 0 0] 58)) false none 0 0
    rw [World.size_alloc] at n1 n2
    rw [World.size_alloc] at n2
    exact ⟨(k0.trans (k1.mono k0.size)).trans (k2.mono (Nat.le_trans k0.size k1.size)), ((BxY.new w V A n c).next k1).next k2, n1.next k2, n2⟩)
  have HI := Lib.hid (And.intro h h')
  have HL := Lib.hid (And.intro h.len h'.len)
  have HV := Lib.hid (And.intro hv (And.intro hu (And.intro ho (And.intro hm hT))))
  have HBD := Lib.hid (vs_bounds hv)
  have hnn : n ≤ 20000 := by have h1 := HBD.out.2.2; have h2 := HL.out.1; omega
  clear k0 k1 k2 h h' hv hu ho hm hT
  go_enter Tryz.func28, Tryz.ntmps28
  go_upto_region 2 with (fail)
  generalize ((w.alloc (boxS V A n c)).alloc (.cells #[.bool false, .slice none 0 0] 58)).alloc (.cells #[.bool false, .slice none 0 0] 58) = W0 at Q0 ⊢
  obtain ⟨g, hg⟩ : ∃ g, g = w.heap.size := ⟨_, rfl⟩
  rw [← hg] at Q0 ⊢
  obtain ⟨go, hgo⟩ : ∃ x, x = g + 1 + 1 := ⟨_, rfl⟩
  have HG := Lib.hid (show w.heap.size ≤ g ∧ g + 1 < go by omega)
  rw [← hgo] at Q0 ⊢
  clear hg hgo
  go_wp2
  go_loopw [7] (fun v wr => ∃ (j : Nat) (t : Bool) (B : Option Addr) (m d : Nat), v = .int .i64 (j : Int) ∧ j ≤ n ∧ RQ w wr g go V A n c t B m d ∧ Is wr (sqS ls ns j) t B m d ∧ fitS ls ns j = true ∧ Sz (sqS ls ns j) 4096) (fun v _ => n - (intOf v).toNat)
  case atStart => exact ⟨0, false, none, 0, 0, rfl, Nat.zero_le _, Q0.out, zero_is _, decide_eq_true (fun i hi => absurd hi (by omega)), by show (0 : Int).natAbs < pw 4096; exact pw_pos 4096⟩
  case round =>
    obtain ⟨j, t, B, m, d, rfl, hj, hq, hi, hf, hz⟩ := hrel
    clear Q0
    have Q := Lib.hid hq
    have IO := Lib.hid hi
    have HF := Lib.hid (And.intro hf hz)
    clear hq hi hf hz
    have a1 := Q.out.bx.c1
    by_cases hjn : j < n
    · have t1 : decide ((j : Int) < (n : Int)) = true := decide_eq_true (by omega)
      have t1n : decide (j < n) = true := decide_eq_true hjn
      have hjI : (j : Int) < (n : Int) := by omega
      obtain ⟨bL, oL, rfl, hltL, hcL⟩ := HI.out.1.at_ (by omega)
      obtain ⟨B1, m1, d1, C1, p1, q1, hK⟩ := hcL j hjn
      obtain ⟨l, hl⟩ : ∃ x, x = lnkAt ls j := ⟨_, rfl⟩
      rw [← hl] at hK
      have HLK := Lib.hid hl
      have hK2 := hK.below hltL Q.out.low
      have c0 := hK2.c0
      have c1 := hK2.c1
      have c2 := hK2.c2
      have hkd := only_at HV.out.2.2.1 (k := j) (by have := HL.out.1; omega)
      rw [← hl] at hkd
      have hlk := vs_at HV.out.1 (k := j) (by have := HL.out.1; omega)
      rw [← hl] at hlk
      have hT1 := HV.out.2.2.2.2 j (by have := HL.out.1; omega)
      rw [← hl] at hT1
      obtain ⟨kind, vs, ps⟩ := l
      dsimp only at c0 hkd
      subst hkd
      have HKR := Lib.hid (show RdI wr B1 m1 vs ∧ RdP wr C1 p1 ps from ⟨hK2.ri, hK2.rp⟩)
      have HVL := Lib.hid hlk
      have HLE := Lib.hid (vl_lens hlk)
      have HPL := Lib.hid (show p1 = 1 ∧ ps.length = 1 by
        have h1 := HLE.out.2.2.1
        have h2 := HKR.out.2.len
        have h3 : polysOf 0 = 1 := by decide
        omega)
      have HOK := Lib.hid (show okPs ps (ownOf vs ns) = true from decide_eq_true hT1)
      clear hl hK hK2 hcL hlk hT1
      go_wp2_with fail
      refine (refValues_c wr 0 B1 m1 d1 vs C1 p1 q1 ps X nx cx ns V HKR.out.1 HKR.out.2 (HI.out.2.below Q.out.low) HVL.out HV.out.2.2.2.1 HV.out.2.1 (by have := HPL.out.1; omega)).mono ?_
      rintro e W1 hR
      obtain ⟨-, A5, c5, rfl, hr, hb⟩ := hR.resolve_right (fun q => by have q1 := q.1; rw [HOK.out] at q1; cases q1)
      have h1l := HPL.out.2
      rw [h1l] at hr ⊢
      obtain ⟨bV, oV, rfl, hltV, hcV⟩ := hr.at_ (by omega)
      obtain ⟨A6, n6, c6, hN⟩ := hcV 0 (by omega)
      obtain ⟨v, hv⟩ : ∃ x, x = val0 (lnkAt ls j) ns := ⟨_, rfl⟩
      have e2 : v = pVal (plyAt ps 0).ts (ownOf vs ns) := by
        rw [hv, ← HLK.out]
        exact valsZ_at (show 0 < ps.length by omega)
      have e1 : nmAt ((valsZ ps (ownOf vs ns)).map nmOf) 0 = nmOf v := by
        rw [e2]
        simp [nmAt, valsZ, plyAt, List.getD_eq_getElem?_getD, List.getElem?_eq_getElem (show 0 < ps.length by omega)]
      rw [e1] at hN
      have hszv : Sz v 4096 := by
        have h2 := of_decide_eq_true HOK.out 0 (by omega)
        rw [e2]
        exact Nat.lt_of_le_of_lt (sumV_le _ _ _) h2
      obtain ⟨s6, hs6⟩ : ∃ x, x = decide (v < 0) := ⟨_, rfl⟩
      have CV := Lib.hid (show CE W1 bV oV s6 A6 n6 c6 from ⟨hltV, by have h := hN.c0; rw [hs6]; rwa [Nat.zero_mul, Nat.add_zero] at h, by have h := hN.c1; rwa [Nat.zero_mul, Nat.add_zero] at h⟩)
      have IV := Lib.hid (show Is W1 v s6 A6 n6 c6 from ⟨hs6, hN.rd.len.symm, hN.rd, hN.nc, hN.cm⟩)
      have HSV := Lib.hid hszv
      have HVE := Lib.hid hv
      replace Q := Lib.hid (Q.out.next hb)
      replace IO := Lib.hid (IO.out.below hb)
      clear hr hcV hN e1 e2 hszv hs6 hv hltV hb hR c0 c1 c2 a1 HKR h1l
      obtain ⟨S, hS⟩ : ∃ x, x = sqS ls ns j := ⟨_, rfl⟩
      have HSE := Lib.hid hS.symm
      rw [← hS] at IO HF
      have HS1 := Lib.hid (show sqS ls ns (j + 1) = S + v * v by rw [sqS, HVE.out, hS])
      clear hS
      go_upto_region 8 with (fail)
      have HG2 := Lib.hid Q.out.o.lt
      have HSZ := Lib.hid (Nat.le_refl W1.heap.size)
      refine wp_region_tail (S := (fun w' => w'.cell? ⟨bV, oV, none⟩ = some (.bool s6) ∧ w'.cell? ⟨bV, (oV + 1), none⟩ = some (.slice A6 n6 c6))) 8 (by kernel_rfl) (by kernel_rfl) (by intro c a d v w h; cases d <;> exact h) (⟨cell_drq CV.out.c0, cell_drq CV.out.c1⟩) (fun QT hT hP hHeld => ?_)
      simp only [List.extract_toArray, List.extract_eq_take_drop, List.drop_zero, Nat.sub_zero, List.take_succ_cons, List.take_zero]
      have HT := Lib.hid hT
      clear hT
      replace Q := Lib.hid (Q.out.next (Below.refl W1.heap.size W1).drew)
      replace IO := Lib.hid (IO.out.below (Below.refl W1.heap.size W1).drew)
      replace IV := Lib.hid (IV.out.below (Below.refl W1.heap.size W1).drew)
      replace CV := Lib.hid (CV.out.next (Below.refl W1.heap.size W1).drew)
      replace HSZ := Lib.hid (Nat.le_trans HSZ.out (Below.refl W1.heap.size W1).drew.size)
      generalize W1.drew = D1 at Q IO IV CV HSZ hHeld ⊢
      refine take_on (i := 0) (d := (some 32)) (v := ?v1) rfl rfl (by kernel_rfl) (by kernel_rfl) (by kernel_rfl) (fun c a w h => hP c a _ _ w h) (by rfl) ?h1 (by assumption) ?r1
      case h1 => intro w hSw; obtain ⟨h0, h1⟩ := hSw; go_simp; rfl
      simp only [Act.put, List.setIfInBounds_toArray, List.set_cons_zero, List.set_cons_succ]
      refine take_on (i := 1) (d := (some 33)) (v := ?v2) rfl rfl (by kernel_rfl) (by kernel_rfl) (by kernel_rfl) (fun c a w h => hP c a _ _ w h) (by rfl) ?h2 (by assumption) ?r2
      case h2 => intro w hSw; obtain ⟨h0, h1⟩ := hSw; go_simp; rfl
      simp only [Act.put, List.setIfInBounds_toArray, List.set_cons_zero, List.set_cons_succ]
      refine take_on (i := 2) (d := (some 34)) (v := ?v3) rfl rfl (by kernel_rfl) (by kernel_rfl) (by kernel_rfl) (fun c a w h => hP c a _ _ w h) (by rfl) ?h3 (by assumption) ?r3
      case h3 => intro w hSw; obtain ⟨h0, h1⟩ := hSw; go_simp; rfl
      simp only [Act.put, List.setIfInBounds_toArray, List.set_cons_zero, List.set_cons_succ]
      refine take_on (i := 3) (d := (some 35)) (v := ?v4) rfl rfl (by kernel_rfl) (by kernel_rfl) (by kernel_rfl) (fun c a w h => hP c a _ _ w h) (by rfl) ?h4 (by assumption) ?r4
      case h4 => intro w hSw; obtain ⟨h0, h1⟩ := hSw; go_simp; rfl
      simp only [Act.put, List.setIfInBounds_toArray, List.set_cons_zero, List.set_cons_succ]
      refine take_on (i := 4) (d := (some 36)) (v := ?v5) rfl rfl (by kernel_rfl) (by kernel_rfl) (by kernel_rfl) (fun c a w h => hP c a _ _ w h) (by rfl) ?h5 (by assumption) ?r5
      case h5 => intro w hSw; obtain ⟨h0, h1⟩ := hSw; go_simp; rfl
      simp only [Act.put, List.setIfInBounds_toArray, List.set_cons_zero, List.set_cons_succ]
      refine take_on (i := 5) (d := (some 37)) (v := ?v6) rfl rfl (by kernel_rfl) (by kernel_rfl) (by kernel_rfl) (fun c a w h => hP c a _ _ w h) (by rfl) ?h6 (by assumption) ?r6
      case h6 => intro w hSw; obtain ⟨h0, h1⟩ := hSw; go_simp; rfl
      simp only [Act.put, List.setIfInBounds_toArray, List.set_cons_zero, List.set_cons_succ]
      refine wpAnyH_ready (rs := [6, 7]) (by kernel_rfl) (by simp) ?_
      refine AllReadyH.cons rfl (fun K hK => ?_) ?_
      ·
        go_simp
        refine (refMul_c IV.out IV.out (Nat.le_trans (IV.out.len HSV.out) (by omega)) (Nat.le_trans (IV.out.len HSV.out) (by omega))).mono ?_
        rintro e v2 ⟨tq, Bq, mq, dq, rfl, hi9, hb⟩
        have IQ := Lib.hid hi9
        replace Q := Lib.hid (Q.out.next hb)
        replace IO := Lib.hid (IO.out.below hb)
        replace IV := Lib.hid (IV.out.below hb)
        replace CV := Lib.hid (CV.out.next hb)
        replace HSZ := Lib.hid (Nat.le_trans HSZ.out hb.size)
        clear hb hHeld hi9
        refine hK.out _ _ (⟨CV.out.c0, CV.out.c1⟩) (fun hHeld => ?_)
        clear hK K
        refine wpAnyH_ready (rs := [7]) (by kernel_rfl) (by simp) ?_
        refine AllReadyH.cons rfl (fun K hK => ?_) AllReadyH.nil
        go_simp
        have HGS := Lib.hid (Nat.lt_of_lt_of_le HG2.out HSZ.out)
        have hb := bel_alloc v2 (.cells #[.bool false, .slice none 0 0] 58)
        have NS := Lib.hid (NV.new v2 false none 0 0)
        replace Q := Lib.hid (Q.out.next hb)
        replace IO := Lib.hid (IO.out.below hb)
        replace IV := Lib.hid (IV.out.below hb)
        replace CV := Lib.hid (CV.out.next hb)
        replace HSZ := Lib.hid (Nat.le_trans HSZ.out hb.size)
        replace IQ := Lib.hid (IQ.out.below hb)
        clear hb hHeld
        generalize v2.alloc (.cells #[.bool false, .slice none 0 0] 58) = v3 at Q IO IV CV HSZ IQ NS ⊢
        generalize v2.heap.size = gs at NS HGS ⊢
        refine hK.out _ _ (⟨CV.out.c0, CV.out.c1⟩) (fun hHeld => ?_)
        clear hK K
        clear hHeld
        refine wpAnyH_done (by kernel_rfl) ?_ _
        refine HT.out _ _ ?_
        clear HT hP QT
        have r0 := NS.out.r0
        have r1 := NS.out.r1
        have f0 := NS.out.f0
        have f1 := NS.out.f1
        refine wpList_step fun K hK => ?_
        go_simp
        refine hK _ _ ?_
        clear hK K
        refine wpList_nil ?_
        have hgs := HGS.out
        have QN := Lib.hid (Q.out.oth3 HG.out hgs (.bool tq) (.slice Bq mq dq))
        have NSN := Lib.hid (NS.out.put tq Bq mq dq)
        have ION := Lib.hid (IO.out.store r0 r1 (.bool tq) (.slice Bq mq dq))
        have IQN := Lib.hid (IQ.out.store r0 r1 (.bool tq) (.slice Bq mq dq))
        clear r0 r1 f0 f1 Q NS IO IQ IV CV
        generalize (v3.setCell ⟨gs, 0, none⟩ (.bool tq)).setCell ⟨gs, 1, none⟩ (.slice Bq mq dq) = W5 at QN NSN ION IQN ⊢
        have Q := QN
        have NS := NSN
        have IO := ION
        have IQ := IQN
        clear QN NSN ION IQN
        have y0 := Q.out.o.r0
        have y1 := Q.out.o.r1
        have z0 := NS.out.r0
        have z1 := NS.out.r1
        go_wp2_with fail
        refine (refAdd_c IO.out IQ.out (Nat.le_trans (IO.out.len HF.out.2) (by omega)) (Nat.le_trans (IQ.out.len (HSV.out.mul HSV.out)) (by omega))).mono ?_
        rintro e W6 ⟨ta, Ba, ma, da, rfl, hi9, hb⟩
        have IA := Lib.hid hi9
        replace Q := Lib.hid (Q.out.next hb)
        replace NS := Lib.hid (NS.out.next hb)
        replace IQ := Lib.hid (IQ.out.below hb)
        clear hb hi9 y0 y1 z0 z1 IO
        have y0 := Q.out.o.r0
        have y1 := Q.out.o.r1
        have f0 := Q.out.o.f0
        have f1 := Q.out.o.f1
        have QN := Lib.hid (Q.out.put HG.out ta Ba ma da)
        have NSN := Lib.hid (NS.out.oth (g' := go) (by omega) (.bool ta) (.slice Ba ma da))
        have IAN := Lib.hid (IA.out.store y0 y1 (.bool ta) (.slice Ba ma da))
        have IQN := Lib.hid (IQ.out.store y0 y1 (.bool ta) (.slice Ba ma da))
        go_upto_region 10 with (fail)
        clear y0 y1 f0 f1 Q NS IA IQ
        generalize (W6.setCell ⟨go, 0, none⟩ (.bool ta)).setCell ⟨go, 1, none⟩ (.slice Ba ma da) = W7 at QN NSN IAN IQN ⊢
        have Q := QN
        have NS := NSN
        have IA := IAN
        have IQ := IQN
        clear QN NSN IAN IQN
        have z0 := NS.out.r0
        have z1 := NS.out.r1
        go_wp2_with fail
        refine (fits_c tq Bq mq dq _).mono ?_
        rintro e W8 ⟨rfl, hb⟩
        replace Q := Lib.hid (Q.out.next hb)
        replace IA := Lib.hid (IA.out.below hb)
        clear hb z0 z1 NS
        have HQM := Lib.hid (show mq = (words (v * v).natAbs).length from IQ.out.2.1)
        clear IQ
        by_cases q1 : mq ≤ 4096
        case neg =>
          rw [decide_eq_false q1]
          have HNF := Lib.hid (show fitS ls ns ls.length = false from fit_not (j := j) (by have := HL.out.1; omega) (fun q => by have q3 := q.1; rw [HVE.out.symm] at q3; exact q1 (by rw [HQM.out]; exact (show Sz (v * v) 4096 from q3).len)))
          clear q1
          have y0 := Q.out.o.r0
          have y1 := Q.out.o.r1
          have r0 := Q.out.rs.r0
          have r1 := Q.out.rs.r1
          have f0 := Q.out.rs.f0
          have f1 := Q.out.rs.f1
          go_wp2
          have QQ := Q.out.rs.put ta Ba ma da
          have q0 := QQ.r0
          have q1 := QQ.r1
          refine bodyPost_ret (v := .tuple #[.agg #[.bool ta, .slice Ba ma da], .bool false]) (by simp [results, Tryz.results28, go_sem, q0, q1]) rfl ?_
          exact ⟨ta, Ba, ma, da, by rw [HNF.out], below_store Q.out.low (by have := HG.out; omega) _ _, fun q => by rw [HNF.out] at q; cases q⟩
        rw [decide_eq_true q1]
        have HQ1 := Lib.hid (show Sz (v * v) 4096 from sz_of_len (by rw [← HQM.out]; exact q1))
        clear q1
        have y0 := Q.out.o.r0
        have y1 := Q.out.o.r1
        go_wp2_with fail
        refine (fits_c ta Ba ma da _).mono ?_
        rintro e W9 ⟨rfl, hb⟩
        replace Q := Lib.hid (Q.out.next hb)
        replace IA := Lib.hid (IA.out.below hb)
        clear hb y0 y1
        have HAM := Lib.hid (show ma = (words (S + v * v).natAbs).length from IA.out.2.1)
        by_cases q1 : ma ≤ 4096
        case neg =>
          rw [decide_eq_false q1]
          have HNF := Lib.hid (show fitS ls ns ls.length = false from fit_not (j := j) (by have := HL.out.1; omega) (fun q => by have q3 := q.2; rw [HS1.out] at q3; exact q1 (by rw [HAM.out]; exact (show Sz (S + v * v) 4096 from q3).len)))
          clear q1
          have y0 := Q.out.o.r0
          have y1 := Q.out.o.r1
          have r0 := Q.out.rs.r0
          have r1 := Q.out.rs.r1
          have f0 := Q.out.rs.f0
          have f1 := Q.out.rs.f1
          go_wp2
          have QQ := Q.out.rs.put ta Ba ma da
          have q0 := QQ.r0
          have q1 := QQ.r1
          refine bodyPost_ret (v := .tuple #[.agg #[.bool ta, .slice Ba ma da], .bool false]) (by simp [results, Tryz.results28, go_sem, q0, q1]) rfl ?_
          exact ⟨ta, Ba, ma, da, by rw [HNF.out], below_store Q.out.low (by have := HG.out; omega) _ _, fun q => by rw [HNF.out] at q; cases q⟩
        rw [decide_eq_true q1]
        have HA1 := Lib.hid (show Sz (S + v * v) 4096 from sz_of_len (by rw [← HAM.out]; exact q1))
        clear q1
        have HFN := Lib.hid (show fitS ls ns (j + 1) = true from fit_next HF.out.1 (by rw [HVE.out.symm]; exact HQ1.out) (by rw [HS1.out]; exact HA1.out))
        have IAN := Lib.hid (show Is W9 (sqS ls ns (j + 1)) ta Ba ma da by rw [HS1.out]; exact IA.out)
        have HSN := Lib.hid (show Sz (sqS ls ns (j + 1)) 4096 by rw [HS1.out]; exact HA1.out)
        clear IA HQ1 HA1
        go_wp2
        go_roundw
        case measure => simp [intOf]; omega
        case rel => exact ⟨j + 1, ta, Ba, ma, da, by go_num, by omega, Q.out, IAN.out, HFN.out, HSN.out⟩
      refine AllReadyH.cons rfl (fun K hK => ?_) ?_
      ·
        go_simp
        have HGS := Lib.hid (Nat.lt_of_lt_of_le HG2.out HSZ.out)
        have hb := bel_alloc D1 (.cells #[.bool false, .slice none 0 0] 58)
        have NS := Lib.hid (NV.new D1 false none 0 0)
        replace Q := Lib.hid (Q.out.next hb)
        replace IO := Lib.hid (IO.out.below hb)
        replace IV := Lib.hid (IV.out.below hb)
        replace CV := Lib.hid (CV.out.next hb)
        replace HSZ := Lib.hid (Nat.le_trans HSZ.out hb.size)
        clear hb hHeld
        generalize D1.alloc (.cells #[.bool false, .slice none 0 0] 58) = v4 at Q IO IV CV HSZ NS ⊢
        generalize D1.heap.size = gs at NS HGS ⊢
        refine hK.out _ _ (⟨CV.out.c0, CV.out.c1⟩) (fun hHeld => ?_)
        clear hK K
        refine wpAnyH_ready (rs := [6]) (by kernel_rfl) (by simp) ?_
        refine AllReadyH.cons rfl (fun K hK => ?_) AllReadyH.nil
        go_simp
        refine (refMul_c IV.out IV.out (Nat.le_trans (IV.out.len HSV.out) (by omega)) (Nat.le_trans (IV.out.len HSV.out) (by omega))).mono ?_
        rintro e v5 ⟨tq, Bq, mq, dq, rfl, hi9, hb⟩
        have IQ := Lib.hid hi9
        replace Q := Lib.hid (Q.out.next hb)
        replace IO := Lib.hid (IO.out.below hb)
        replace IV := Lib.hid (IV.out.below hb)
        replace CV := Lib.hid (CV.out.next hb)
        replace HSZ := Lib.hid (Nat.le_trans HSZ.out hb.size)
        replace NS := Lib.hid (NS.out.next hb)
        clear hb hHeld hi9
        refine hK.out _ _ (⟨CV.out.c0, CV.out.c1⟩) (fun hHeld => ?_)
        clear hK K
        clear hHeld
        refine wpAnyH_done (by kernel_rfl) ?_ _
        refine HT.out _ _ ?_
        clear HT hP QT
        have r0 := NS.out.r0
        have r1 := NS.out.r1
        have f0 := NS.out.f0
        have f1 := NS.out.f1
        refine wpList_step fun K hK => ?_
        go_simp
        refine hK _ _ ?_
        clear hK K
        refine wpList_nil ?_
        have hgs := HGS.out
        have QN := Lib.hid (Q.out.oth3 HG.out hgs (.bool tq) (.slice Bq mq dq))
        have NSN := Lib.hid (NS.out.put tq Bq mq dq)
        have ION := Lib.hid (IO.out.store r0 r1 (.bool tq) (.slice Bq mq dq))
        have IQN := Lib.hid (IQ.out.store r0 r1 (.bool tq) (.slice Bq mq dq))
        clear r0 r1 f0 f1 Q NS IO IQ IV CV
        generalize (v5.setCell ⟨gs, 0, none⟩ (.bool tq)).setCell ⟨gs, 1, none⟩ (.slice Bq mq dq) = W5 at QN NSN ION IQN ⊢
        have Q := QN
        have NS := NSN
        have IO := ION
        have IQ := IQN
        clear QN NSN ION IQN
        have y0 := Q.out.o.r0
        have y1 := Q.out.o.r1
        have z0 := NS.out.r0
        have z1 := NS.out.r1
        go_wp2_with fail
        refine (refAdd_c IO.out IQ.out (Nat.le_trans (IO.out.len HF.out.2) (by omega)) (Nat.le_trans (IQ.out.len (HSV.out.mul HSV.out)) (by omega))).mono ?_
        rintro e W6 ⟨ta, Ba, ma, da, rfl, hi9, hb⟩
        have IA := Lib.hid hi9
        replace Q := Lib.hid (Q.out.next hb)
        replace NS := Lib.hid (NS.out.next hb)
        replace IQ := Lib.hid (IQ.out.below hb)
        clear hb hi9 y0 y1 z0 z1 IO
        have y0 := Q.out.o.r0
        have y1 := Q.out.o.r1
        have f0 := Q.out.o.f0
        have f1 := Q.out.o.f1
        have QN := Lib.hid (Q.out.put HG.out ta Ba ma da)
        have NSN := Lib.hid (NS.out.oth (g' := go) (by omega) (.bool ta) (.slice Ba ma da))
        have IAN := Lib.hid (IA.out.store y0 y1 (.bool ta) (.slice Ba ma da))
        have IQN := Lib.hid (IQ.out.store y0 y1 (.bool ta) (.slice Ba ma da))
        go_upto_region 10 with (fail)
        clear y0 y1 f0 f1 Q NS IA IQ
        generalize (W6.setCell ⟨go, 0, none⟩ (.bool ta)).setCell ⟨go, 1, none⟩ (.slice Ba ma da) = W7 at QN NSN IAN IQN ⊢
        have Q := QN
        have NS := NSN
        have IA := IAN
        have IQ := IQN
        clear QN NSN IAN IQN
        have z0 := NS.out.r0
        have z1 := NS.out.r1
        go_wp2_with fail
        refine (fits_c tq Bq mq dq _).mono ?_
        rintro e W8 ⟨rfl, hb⟩
        replace Q := Lib.hid (Q.out.next hb)
        replace IA := Lib.hid (IA.out.below hb)
        clear hb z0 z1 NS
        have HQM := Lib.hid (show mq = (words (v * v).natAbs).length from IQ.out.2.1)
        clear IQ
        by_cases q1 : mq ≤ 4096
        case neg =>
          rw [decide_eq_false q1]
          have HNF := Lib.hid (show fitS ls ns ls.length = false from fit_not (j := j) (by have := HL.out.1; omega) (fun q => by have q3 := q.1; rw [HVE.out.symm] at q3; exact q1 (by rw [HQM.out]; exact (show Sz (v * v) 4096 from q3).len)))
          clear q1
          have y0 := Q.out.o.r0
          have y1 := Q.out.o.r1
          have r0 := Q.out.rs.r0
          have r1 := Q.out.rs.r1
          have f0 := Q.out.rs.f0
          have f1 := Q.out.rs.f1
          go_wp2
          have QQ := Q.out.rs.put ta Ba ma da
          have q0 := QQ.r0
          have q1 := QQ.r1
          refine bodyPost_ret (v := .tuple #[.agg #[.bool ta, .slice Ba ma da], .bool false]) (by simp [results, Tryz.results28, go_sem, q0, q1]) rfl ?_
          exact ⟨ta, Ba, ma, da, by rw [HNF.out], below_store Q.out.low (by have := HG.out; omega) _ _, fun q => by rw [HNF.out] at q; cases q⟩
        rw [decide_eq_true q1]
        have HQ1 := Lib.hid (show Sz (v * v) 4096 from sz_of_len (by rw [← HQM.out]; exact q1))
        clear q1
        have y0 := Q.out.o.r0
        have y1 := Q.out.o.r1
        go_wp2_with fail
        refine (fits_c ta Ba ma da _).mono ?_
        rintro e W9 ⟨rfl, hb⟩
        replace Q := Lib.hid (Q.out.next hb)
        replace IA := Lib.hid (IA.out.below hb)
        clear hb y0 y1
        have HAM := Lib.hid (show ma = (words (S + v * v).natAbs).length from IA.out.2.1)
        by_cases q1 : ma ≤ 4096
        case neg =>
          rw [decide_eq_false q1]
          have HNF := Lib.hid (show fitS ls ns ls.length = false from fit_not (j := j) (by have := HL.out.1; omega) (fun q => by have q3 := q.2; rw [HS1.out] at q3; exact q1 (by rw [HAM.out]; exact (show Sz (S + v * v) 4096 from q3).len)))
          clear q1
          have y0 := Q.out.o.r0
          have y1 := Q.out.o.r1
          have r0 := Q.out.rs.r0
          have r1 := Q.out.rs.r1
          have f0 := Q.out.rs.f0
          have f1 := Q.out.rs.f1
          go_wp2
          have QQ := Q.out.rs.put ta Ba ma da
          have q0 := QQ.r0
          have q1 := QQ.r1
          refine bodyPost_ret (v := .tuple #[.agg #[.bool ta, .slice Ba ma da], .bool false]) (by simp [results, Tryz.results28, go_sem, q0, q1]) rfl ?_
          exact ⟨ta, Ba, ma, da, by rw [HNF.out], below_store Q.out.low (by have := HG.out; omega) _ _, fun q => by rw [HNF.out] at q; cases q⟩
        rw [decide_eq_true q1]
        have HA1 := Lib.hid (show Sz (S + v * v) 4096 from sz_of_len (by rw [← HAM.out]; exact q1))
        clear q1
        have HFN := Lib.hid (show fitS ls ns (j + 1) = true from fit_next HF.out.1 (by rw [HVE.out.symm]; exact HQ1.out) (by rw [HS1.out]; exact HA1.out))
        have IAN := Lib.hid (show Is W9 (sqS ls ns (j + 1)) ta Ba ma da by rw [HS1.out]; exact IA.out)
        have HSN := Lib.hid (show Sz (sqS ls ns (j + 1)) 4096 by rw [HS1.out]; exact HA1.out)
        clear IA HQ1 HA1
        go_wp2
        go_roundw
        case measure => simp [intOf]; omega
        case rel => exact ⟨j + 1, ta, Ba, ma, da, by go_num, by omega, Q.out, IAN.out, HFN.out, HSN.out⟩
      exact AllReadyH.nil
    · have e : j = ls.length := by have := HL.out.1; omega
      have t1 : decide ((j : Int) < (n : Int)) = false := decide_eq_false (by omega)
      have t1n : decide (j < n) = false := decide_eq_false hjn
      rw [e] at HF IO
      clear e
      have y0 := Q.out.o.r0
      have y1 := Q.out.o.r1
      have r0 := Q.out.rs.r0
      have r1 := Q.out.rs.r1
      have f0 := Q.out.rs.f0
      have f1 := Q.out.rs.f1
      go_wp2
      have QQ := Q.out.rs.put t B m d
      have q0 := QQ.r0
      have q1 := QQ.r1
      refine bodyPost_ret (v := .tuple #[.agg #[.bool t, .slice B m d], .bool true]) (by simp [results, Tryz.results28, go_sem, q0, q1]) rfl ?_
      exact ⟨t, B, m, d, by rw [HF.out.1], below_store Q.out.low (by have := HG.out; omega) _ _, fun _ => ⟨IO.out.store r0 r1 _ _, HF.out.2⟩⟩
end Go.Proofs.YteabokkofoomkaaGreat

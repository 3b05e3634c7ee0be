import Derived.Test.YteabokkofoomkaaEba
import Derived.Test.YteabokkofoomkaaEax
import Derived.Test.YteabokkofoomkaaEas
import Derived.Test.YteabokkofoomkaaEao
import Derived.Test.YteabokkofoomkaaEau
import Derived.Deep.QuietTactic
import Derived.BigQuiet
set_option maxRecDepth 100000
namespace Go.Proofs.Yteabokkofoomkaa
open Go.RowKit Go.Shelf Go.Deep
def lnkMost (l : Lnk) (ns : List Nmr) (j : Nat) (M : Int) : Prop := ∀ b, b < j → (loadP (plyAt l.ps b).ts (ownOf l.vs ns) : Int) ≤ M
def sysMost (ls : List Lnk) (ns : List Nmr) (i : Nat) (M : Int) : Prop := ∀ a, a < i → lnkMost (lnkAt ls a) ns (lnkAt ls a).ps.length M
theorem lnkMost.mono {l : Lnk} {ns : List Nmr} {j : Nat} {M M' : Int} (h : lnkMost l ns j M) (hm : M ≤ M') : lnkMost l ns j M' := fun b hb => Int.le_trans (h b hb) hm
theorem sysMost.mono {ls : List Lnk} {ns : List Nmr} {i : Nat} {M M' : Int} (h : sysMost ls ns i M) (hm : M ≤ M') : sysMost ls ns i M' := fun a ha => (h a ha).mono hm
theorem lnkMost.step {l : Lnk} {ns : List Nmr} {j : Nat} {M : Int} (h : lnkMost l ns j M) (hm : (loadP (plyAt l.ps j).ts (ownOf l.vs ns) : Int) ≤ M) : lnkMost l ns (j + 1) M := fun b hb => by
 by_cases e : b = j
 · rw [e]; exact hm
 · exact h b (by omega)
theorem sysMost.step {ls : List Lnk} {ns : List Nmr} {i : Nat} {M : Int} (h : sysMost ls ns i M) (hm : lnkMost (lnkAt ls i) ns (lnkAt ls i).ps.length M) : sysMost ls ns (i + 1) M := fun a ha => by
 by_cases e : a = i
 · rw [e]; exact hm
 · exact h a (by omega)
theorem refLoad_u (V : Int) (A : Option Addr) (n c : Nat) (ts : List Trm) (C : Option Addr) (m cd : Nat) (ns : List Nmr) (w : World) (h : RdT w A n ts) (h' : RdN w C m ns) (hv : validP V ts = true) (hm : (m : Int) = V) :
 Calls Try.prog 47 #[aggP V A n c, .slice C m cd] w (fun e w' => ∃ v : Int, e = .returned (.int .i64 v) ∧ Below w.heap.size w w' ∧ (allB ns = true → v = (loadP ts ns : Int))) := by
 cases hu : allB ns with
 | true =>
   refine (refLoad_c V A n c ts C m cd ns w h h' hv hm hu).mono ?_
   rintro e w' ⟨rfl, hb⟩
   exact ⟨_, rfl, hb, fun _ => rfl⟩
 | false =>
   refine (refLoad_any V A n c ts C m cd ns w h h' hv hm).mono ?_
   rintro e w' ⟨v, rfl, hb⟩
   exact ⟨v, rfl, hb, fun h => by cases h⟩
structure SL (w W : World) (g : Nat) (V : Int) (A : Option Addr) (n c : Nat) : Prop where
 low : Below w.heap.size w W
 bx : BxY W g V A n c
section
variable {w W W' : World} {g : Nat} {V : Int} {A : Option Addr} {n c : Nat}
theorem SL.next (h : SL w W g V A n c) (hb : Below W.heap.size W W') : SL w W' g V A n c :=
 ⟨h.low.trans (hb.mono h.low.size), h.bx.next hb⟩
theorem BxY.low (h : BxY W g V A n c) {Bd : Nat} (hg : g < Bd) (hb : Below Bd W W') : BxY W' g V A n c :=
 ⟨Nat.lt_of_lt_of_le h.lt hb.size, (hb.cell (p := ⟨g, 0, none⟩) hg).trans h.c0, (hb.cell (p := ⟨g, 1, none⟩) hg).trans h.c1⟩
theorem SL.under (h : SL w W g V A n c) {Bd : Nat} (hw : w.heap.size ≤ Bd) (hg : g < Bd) (hb : Below Bd W W') : SL w W' g V A n c :=
 ⟨h.low.trans (hb.mono hw), h.bx.low hg hb⟩
end
theorem vs_link {V : Int} {ls : List Lnk} (h : validS V ls = true) {k : Nat} (hk : k < ls.length) : validLnk (lnkAt ls k) V = true := by
 simp only [validS, Bool.and_eq_true, decide_eq_true_eq] at h
 exact h.2 k hk
set_option maxHeartbeats 8000000 in
theorem refSysLoad_c (V : Int) (A : Option Addr) (n c : Nat) (ls : List Lnk) (X : Option Addr) (nx cx : Nat) (ns : List Nmr) (w : World) (h : RdL w A n ls) (h' : RdN w X nx ns) (hv : validS V ls = true) (hm : (nx : Int) = V) :
 Calls Try.prog 32 #[aggS V A n c, .slice X nx cx] w (fun e w' => ∃ v : Int, e = .returned (.int .i64 v) ∧ Below w.heap.size w w' ∧ (allB ns = true → sysMost ls ns ls.length v)) := by
 have k1 := bel_alloc w (boxS V A n c)
 have HB := Lib.hid (show w.heap.size < (w.alloc (boxS V A n c)).heap.size by simp)
 have X0 := Lib.hid (show SL w (w.alloc (boxS V A n c)) w.heap.size V A n c from ⟨k1, BxY.new w V A n c⟩)
 have HI := Lib.hid (And.intro h h')
 have HL := Lib.hid (And.intro h.len h'.len)
 have HV := Lib.hid (And.intro hv hm)
 have HN := Lib.hid (show n ≤ 20000 by
  have h1 := h.len
  simp only [validS, Bool.and_eq_true, decide_eq_true_eq] at hv
  omega)
 clear k1 h h' hv hm
 go_enter Try.func32, Try.ntmps32
 go_upto_region 1 with (fail)
 generalize w.alloc (boxS V A n c) = W0 at HB X0 ⊢
 obtain ⟨g, hg⟩ : ∃ g, g = w.heap.size := ⟨_, rfl⟩
 have HG := Lib.hid hg
 rw [← hg] at HB X0 ⊢
 clear hg
 obtain ⟨Bd, hBd⟩ : ∃ x, x = g + 1 := ⟨_, rfl⟩
 have HBd := Lib.hid hBd
 clear hBd
 go_wp2
 go_loopw [5, 6] (fun v5 v6 wr => ∃ (i : Nat) (M : Int), v6 = .int .i64 (i : Int) ∧ v5 = .int .i64 M ∧ i ≤ n ∧ SL w wr g V A n c ∧ (allB ns = true → sysMost ls ns i M) ∧ Bd ≤ wr.heap.size) (fun _ v _ => n - (intOf v).toNat)
 case atStart => exact ⟨0, 0, rfl, rfl, Nat.zero_le _, X0.out, fun _ a ha => absurd ha (by omega), by have := HB.out; have := HBd.out; omega⟩
 case round =>
  obtain ⟨i, M, rfl, rfl, hi, hx, hmo, hsz⟩ := hrel
  clear X0 HB
  have X0 := Lib.hid hx
  have MO := Lib.hid hmo
  have SZ := Lib.hid hsz
  have hnn := HN.out
  clear hx hmo hsz
  have a1 := X0.out.bx.c1
  by_cases hin : i < n
  · have t1 : decide ((i : Int) < (n : Int)) = true := decide_eq_true (by omega)
    have t1n : decide (i < n) = true := decide_eq_true hin
    have hiI : (i : Int) < (n : Int) := by omega
    obtain ⟨bL, oL, rfl, hltL, hcL⟩ := HI.out.1.at_ (by omega)
    obtain ⟨B1, m1, d1, C1, p1, q1, hK⟩ := hcL i hin
    obtain ⟨l, hl⟩ : ∃ x, x = lnkAt ls i := ⟨_, rfl⟩
    rw [← hl] at hK
    have HLK := Lib.hid hl
    have hlk := vs_link HV.out.1 (k := i) (by have := HL.out.1; omega)
    rw [← hl] at hlk
    have LK := Lib.hid (show bL < w.heap.size ∧ LnkIs w bL (oL + i * 3) l B1 m1 d1 C1 p1 q1 from ⟨hltL, hK⟩)
    obtain ⟨kind, vs, ps⟩ := l
    have HLV := Lib.hid hlk
    have HRI := Lib.hid (show RdI w B1 m1 vs from hK.ri)
    have HRP := Lib.hid (show RdP w C1 p1 ps from hK.rp)
    have HLL := Lib.hid (show vs.length = m1 ∧ ps.length = p1 from ⟨hK.ri.len, hK.rp.len⟩)
    clear hl hK hcL hltL hlk
    go_wp2
    clear a1 t1 t1n
    go_loopw [7, 8] (fun v7 v8 wq => ∃ (k c2 : Nat) (A2 : Option Addr), v8 = .int .i64 (k : Int) ∧ v7 = .slice A2 k c2 ∧ k ≤ m1 ∧ SL w wq g V (some ⟨bL, oL, none⟩) n c ∧ OwN wq Bd A2 k c2 ((ownOf vs ns).take k) ∧ Bd ≤ wq.heap.size) (fun _ v _ => m1 - (intOf v).toNat)
    case atStart => exact ⟨0, 0, none, rfl, rfl, Nat.zero_le _, X0.out, OwN.nil _ _, SZ.out⟩
    case round =>
     obtain ⟨k, c2, A2, rfl, rfl, hk, hx, ho, hsz⟩ := hrel
     clear X0 SZ
     have X0 := Lib.hid hx
     have OW := Lib.hid ho
     have SZ := Lib.hid hsz
     have hmm : m1 ≤ 32 := by
      have h1 := HLL.out.1
      have h2 := (vl_lens HLV.out).2.2.2
      omega
     have hpp : p1 ≤ 3 := by
      have h1 := HLL.out.2
      have h2 := (vl_lens HLV.out).2.2.1
      simp only [polysOf] at h2
      split at h2
      · omega
      · split at h2 <;> omega
     clear hx ho hsz
     have a1 := X0.out.bx.c1
     have LW := LK.out.2.below LK.out.1 X0.out.low
     have b1 := LW.c1
     have b2 := LW.c2
     clear LW
     by_cases hkm : k < m1
     · have t1 : decide ((k : Int) < (m1 : Int)) = true := decide_eq_true (by omega)
       have t1n : decide (k < m1) = true := decide_eq_true hkm
       have hkI : (k : Int) < (m1 : Int) := by omega
       have hlow := X0.out.low
       obtain ⟨bE, oE, rfl, _, hcE⟩ := (HRI.out.below hlow).at_ (by omega)
       have c0 := hcE k hkm
       obtain ⟨j, hj1, hj2⟩ : ∃ j : Nat, vs.getD k 0 = (j : Int) ∧ j < nx := by
        have h1 := HLL.out.1
        have h3 := HV.out.2
        have h4 := vl_vars HLV.out k (by omega)
        exact ⟨(vs.getD k 0).toNat, by omega, by omega⟩
       rw [hj1] at c0
       have HJ := Lib.hid hj1
       obtain ⟨bN, oN, rfl, _, hcN⟩ := (HI.out.2.below hlow).at_ (by omega)
       obtain ⟨A1, n1, c1', hN⟩ := hcN j hj2
       have d0 := hN.c0
       have d1 := hN.c1
       obtain ⟨t, ht⟩ : ∃ t, t = nmAt ns j := ⟨_, rfl⟩
       rw [← ht] at d0 hN
       have HT := Lib.hid ht
       have HNN := Lib.hid hN
       clear ht hN hcE hcN hlow hj1
       obtain ⟨s, xs⟩ := t
       dsimp only at d0
       go_upto_region 9 with (fail)
       go_wp2_with (at_builtin; refine wpList_app_nm rfl (.tmp 28) (.tmp 41) rfl Bd A2 k c2 ((ownOf vs ns).take k) wr.heap.size 1 s A1 n1 c1' xs rfl rfl (OW.out.keep (bel_alloc _ _)) (by rw [World.size_alloc]; have := SZ.out; omega) (NV.new _ _ _ _ _) (HNN.out.rd.below (bel_alloc _ _)) HNN.out.nc HNN.out.cm (by omega) ?_)
       intro g' c' w9 h1 hb
       have hba := bel_alloc wr (.cells #[.bool s, .slice A1 n1 c1'] 24)
       rw [show (ownOf vs ns).take k ++ [⟨s, xs⟩] = (ownOf vs ns).take (k + 1) from by
        rw [← take_nm (by rw [ownOf_len, HLL.out.1]; exact hkm), ownOf_at (by rw [HLL.out.1]; exact hkm), HJ.out, Int.toNat_natCast, ← HT.out]] at h1
       have OW2 := Lib.hid h1
       have hs1 := HBd.out
       have hs3 := HG.out
       have X2 := Lib.hid ((X0.out.next hba).under (Bd := Bd) (by omega) (by omega) hb)
       have SZ2 := Lib.hid (show Bd ≤ w9.heap.size from Nat.le_trans SZ.out (Nat.le_trans hba.size hb.size))
       clear h1 hb hba hs1 hs3 X0 OW SZ HNN HT HJ d0 d1 c0 a1 b1 b2
       go_wp2
       go_roundw
       case measure => simp [intOf]; omega
       case rel => exact ⟨k + 1, c', some ⟨g', 0, none⟩, by go_num, by go_num, by omega, X2.out, OW2.out, SZ2.out⟩
     · have e : k = m1 := by omega
       have t1 : decide ((k : Int) < (m1 : Int)) = false := decide_eq_false (by omega)
       have t1n : decide (k < m1) = false := decide_eq_false hkm
       have OWR := Lib.hid (show RdN wr A2 m1 (ownOf vs ns) from by
        have h := OW.out.rd
        rw [e, List.take_of_length_le (by rw [ownOf_len, HLL.out.1]; exact Nat.le_refl _)] at h
        exact h)
       rw [e] at t1 t1n ⊢
       clear OW e hk hkm
       go_wp2
       clear a1 b1 b2 t1 t1n
       have X1 := Lib.hid X0.out
       clear X0
       generalize wr = W1 at X1 OWR SZ ⊢
       go_loopw [5, 9] (fun v5 v9 wq => ∃ (j : Nat) (M : Int), v9 = .int .i64 (j : Int) ∧ v5 = .int .i64 M ∧ j ≤ p1 ∧ SL w wq g V (some ⟨bL, oL, none⟩) n c ∧ Below W1.heap.size W1 wq ∧ (allB ns = true → sysMost ls ns i M ∧ lnkMost ⟨kind, vs, ps⟩ ns j M)) (fun _ v _ => p1 - (intOf v).toNat)
       case atStart => exact ⟨0, M, rfl, rfl, Nat.zero_le _, X1.out, Below.refl _ _, fun h => ⟨MO.out h, fun b hb => absurd hb (by omega)⟩⟩
       case round =>
        obtain ⟨j, M', rfl, rfl, hj, hx, hlo, hmo⟩ := hrel
        clear MO
        have X0 := Lib.hid hx
        have LO := Lib.hid hlo
        have MO := Lib.hid hmo
        clear hx hlo hmo
        have a1 := X0.out.bx.c1
        have LW := LK.out.2.below LK.out.1 X0.out.low
        have b2 := LW.c2
        clear LW
        by_cases hjp : j < p1
        · have t1 : decide ((j : Int) < (p1 : Int)) = true := decide_eq_true (by omega)
          have t1n : decide (j < p1) = true := decide_eq_true hjp
          have hjI : (j : Int) < (p1 : Int) := by omega
          obtain ⟨bP, oP, rfl, _, hcP⟩ := (HRP.out.below X0.out.low).at_ (by omega)
          obtain ⟨A4, n4, c4, hP⟩ := hcP j hjp
          obtain ⟨pl, hpl⟩ : ∃ x, x = plyAt ps j := ⟨_, rfl⟩
          have HPL := Lib.hid hpl
          rw [← hpl] at hP
          have hV1 := vl_polys HLV.out j (by have := HLL.out.2; omega)
          rw [← hpl] at hV1
          have HV1 := Lib.hid hV1
          clear hpl hcP hV1
          obtain ⟨V', ts⟩ := pl
          have d0 := hP.c0
          have d1 := hP.c1
          dsimp only at d0
          have PT := Lib.hid hP.rt
          have RO := Lib.hid (OWR.out.below LO.out)
          clear hP
          go_wp2_with fail
          refine (refLoad_u V' A4 n4 c4 ts A2 m1 c2 (ownOf vs ns) _ PT.out RO.out HV1.out.2 (by rw [HV1.out.1, HLL.out.1])).mono ?_
          rintro e W3 ⟨v, rfl, hb, hve⟩
          have X3 := Lib.hid (X0.out.next hb)
          have LO3 := Lib.hid (LO.out.trans (hb.mono LO.out.size))
          have HVE := Lib.hid (show allB ns = true → (loadP (plyAt ps j).ts (ownOf vs ns) : Int) = v from fun hq => by
           rw [← HPL.out]
           exact (hve (allB_own hq (fun k hk => by
            have h1 := vl_vars HLV.out k hk
            have h2 := HV.out.2
            have h3 := HL.out.2
            omega))).symm)
          have MO3 := Lib.hid (show ∀ M'', M' ≤ M'' → v ≤ M'' → allB ns = true → sysMost ls ns i M'' ∧ lnkMost ⟨kind, vs, ps⟩ ns (j + 1) M'' from fun M'' h1 h2 hq =>
           ⟨(MO.out hq).1.mono h1, ((MO.out hq).2.mono h1).step (by have h3 := HVE.out hq; show (loadP (plyAt ps j).ts (ownOf vs ns) : Int) ≤ M''; rw [h3]; exact h2)⟩)
          clear hb hve X0 LO MO PT RO d0 d1 a1 b2 HVE t1 t1n
          go_wp2
          go_roundw
          case measure => simp [intOf]; omega
          case rel => exact ⟨j + 1, _, by go_num, rfl, by omega, X3.out, LO3.out, MO3.out _ (by split <;> omega) (by split <;> omega)⟩
        · have e : j = p1 := by omega
          have t1 : decide ((j : Int) < (p1 : Int)) = false := decide_eq_false (by omega)
          have t1n : decide (j < p1) = false := decide_eq_false hjp
          have MO3 := Lib.hid (show allB ns = true → sysMost ls ns (i + 1) M' from fun hq => (MO.out hq).1.step (by
           have h1 := (MO.out hq).2
           rw [e, ← HLL.out.2, HLK.out] at h1
           have h2 : ps = (lnkAt ls i).ps := by rw [← HLK.out]
           rw [← h2]
           exact h1))
          have SZ3 := Lib.hid (show Bd ≤ wr.heap.size from Nat.le_trans SZ.out LO.out.size)
          go_wp2
          go_roundw
          case measure => simp [intOf]; omega
          case rel => exact ⟨i + 1, M', by go_num, rfl, by omega, X0.out, MO3.out, SZ3.out⟩
  · have t1 : decide ((i : Int) < (n : Int)) = false := decide_eq_false (by omega)
    have t1n : decide (i < n) = false := decide_eq_false hin
    obtain rfl : i = ls.length := by rw [HL.out.1]; omega
    go_wp2
    go_ret
    exact ⟨M, rfl, X0.out.low, MO.out⟩
def LightP (V : Int) (ls : List Lnk) (nx : Nat) (ns : List Nmr) (most : Int) (w : World) (e : Ending) (w' : World) : Prop :=
 ∃ b : Bool, e = .returned (.bool b) ∧ Below w.heap.size w w' ∧ (b = true → validS V ls = true → (nx : Int) = V → allB ns = true → sysMost ls ns ls.length most)
theorem LightP.no {V : Int} {ls : List Lnk} {nx : Nat} {ns : List Nmr} {most : Int} {w w' : World} (h : Below w.heap.size w w') : LightP V ls nx ns most w (.returned (.bool false)) w' :=
 ⟨false, rfl, h, fun h => by cases h⟩
set_option maxHeartbeats 8000000 in
theorem light9_c (V : Int) (A : Option Addr) (n c : Nat) (ls : List Lnk) (X : Option Addr) (nx cx : Nat) (ns : List Nmr) (most : Int) (w : World) (h : RdL w A n ls) (h' : RdN w X nx ns) (hx : nx ≤ 9223372036854775807) (hn : n ≤ 9223372036854775807) :
 Calls Try.prog 18 #[aggS V A n c, .slice X nx cx, .int .i64 most] w (LightP V ls nx ns most w) := by
 have k1 := bel_alloc w (boxS V A n c)
 have X0 := Lib.hid (show SL w (w.alloc (boxS V A n c)) w.heap.size V A n c from ⟨k1, BxY.new w V A n c⟩)
 have HI := Lib.hid (And.intro h h')
 have HL := Lib.hid (And.intro h.len h'.len)
 clear k1 h h'
 go_enter Try.func18, Try.ntmps18
 go_upto_region 1 with (fail)
 generalize w.alloc (boxS V A n c) = W0 at X0 ⊢
 obtain ⟨g, hg⟩ : ∃ g, g = w.heap.size := ⟨_, rfl⟩
 rw [← hg] at X0 ⊢
 clear hg
 have a1 := X0.out.bx.c1
 by_cases q1 : 400 < n
 · have t1 : decide ((400 : Int) < (n : Int)) = true := decide_eq_true (by omega)
   have t1n : decide (400 < n) = true := decide_eq_true q1
   go_wp2
   go_ret
   exact LightP.no X0.out.low
 have t1 : decide ((400 : Int) < (n : Int)) = false := decide_eq_false (by omega)
 have t1n : decide (400 < n) = false := decide_eq_false q1
 by_cases q2 : 20100 < nx
 · have t2 : decide ((20100 : Int) < (nx : Int)) = true := decide_eq_true (by omega)
   have t2n : decide (20100 < nx) = true := decide_eq_true q2
   go_wp2
   go_ret
   exact LightP.no X0.out.low
 have t2 : decide ((20100 : Int) < (nx : Int)) = false := decide_eq_false (by omega)
 have t2n : decide (20100 < nx) = false := decide_eq_false q2
 have HN := Lib.hid (show n ≤ 400 ∧ nx ≤ 20100 from ⟨by omega, by omega⟩)
 clear q1 q2 hx hn
 go_wp2
 clear a1 t1 t1n t2 t2n
 go_loopw [7, 8] (fun v7 v8 wr => ∃ (i : Nat), v8 = .int .i64 (i : Int) ∧ (∃ C : Int, v7 = .int .i64 C) ∧ i ≤ n ∧ SL w wr g V A n c) (fun _ v _ => n - (intOf v).toNat)
 case atStart => exact ⟨0, rfl, ⟨0, rfl⟩, Nat.zero_le _, X0.out⟩
 case round =>
  obtain ⟨i, rfl, ⟨C, rfl⟩, hi, hx⟩ := hrel
  clear X0
  have X0 := Lib.hid hx
  have hnn := HN.out.1
  clear hx
  have a1 := X0.out.bx.c1
  by_cases hin : i < n
  · have t1 : decide ((i : Int) < (n : Int)) = true := decide_eq_true (by omega)
    have t1n : decide (i < n) = true := decide_eq_true hin
    have hiI : (i : Int) < (n : Int) := by omega
    obtain ⟨bL, oL, rfl, hltL, hcL⟩ := HI.out.1.at_ (by omega)
    obtain ⟨B1, m1, d1, C1, p1, q1, hK⟩ := hcL i hin
    obtain ⟨l, hl⟩ : ∃ x, x = lnkAt ls i := ⟨_, rfl⟩
    rw [← hl] at hK
    have LK := Lib.hid (LkA.mk hltL hK)
    have HRP := Lib.hid hK.rp
    have HPQ := Lib.hid (show p1 ≤ 9223372036854775807 from Nat.le_trans hK.pq hK.qm)
    clear hl hK hcL hltL
    have LW := LK.out.next X0.out.low
    have b1 := LW.is.c1
    have b2 := LW.is.c2
    clear LW
    go_upto_region 7 with (fail)
    go_quiet (fail)
    have hdr := below_drewN (Below.refl wr.heap.size wr) nq
    have X1 := Lib.hid (X0.out.next hdr)
    clear hdr a1 b1 b2 X0 t1 t1n
    generalize wr.drewN nq = W1 at X1 ⊢
    go_wp2
    go_loopw [7, 9] (fun v7 v9 wq => ∃ (j : Nat), v9 = .int .i64 (j : Int) ∧ (∃ C : Int, v7 = .int .i64 C) ∧ j ≤ p1 ∧ SL w wq g V (some ⟨bL, oL, none⟩) n c) (fun _ v _ => p1 - (intOf v).toNat)
    case atStart => exact ⟨0, rfl, ⟨_, rfl⟩, Nat.zero_le _, X1.out⟩
    case round =>
     obtain ⟨j, rfl, ⟨C', rfl⟩, hj, hx⟩ := hrel
     clear X1
     have X0 := Lib.hid hx
     clear hx
     have hpp := HPQ.out
     have a1 := X0.out.bx.c1
     have LW := LK.out.next X0.out.low
     have b2 := LW.is.c2
     clear LW
     by_cases hjp : j < p1
     · have t1 : decide ((j : Int) < (p1 : Int)) = true := decide_eq_true (by omega)
       have t1n : decide (j < p1) = true := decide_eq_true hjp
       have hjI : (j : Int) < (p1 : Int) := by omega
       by_cases hC : C' ≤ 6000
       · have t2 : decide (C' ≤ 6000) = true := decide_eq_true hC
         obtain ⟨bP, oP, rfl, hltP, hcP⟩ := HRP.out.at_ (by omega)
         obtain ⟨A4, n4, c4, hP⟩ := hcP j hjp
         have d1 := (PlA.next ⟨hltP, hP⟩ X0.out.low).is.c1
         have PT := Lib.hid hP.rt
         have HN4 := Lib.hid (show n4 ≤ 9223372036854775807 from Nat.le_trans hP.nc hP.cm)
         clear hP hcP hltP hC
         go_wp2
         clear a1 b2 d1 t1 t1n t2
         go_loopw [7, 11] (fun v7 v11 wq => ∃ (k : Nat), v11 = .int .i64 (k : Int) ∧ (∃ C : Int, v7 = .int .i64 C) ∧ k ≤ n4 ∧ SL w wq g V (some ⟨bL, oL, none⟩) n c) (fun _ v _ => n4 - (intOf v).toNat)
         case atStart => exact ⟨0, rfl, ⟨_, rfl⟩, Nat.zero_le _, X0.out⟩
         case round =>
          obtain ⟨k, rfl, ⟨C'', rfl⟩, hk, hx⟩ := hrel
          clear X0
          have X0 := Lib.hid hx
          clear hx
          have hn4 := HN4.out
          by_cases hkn : k < n4
          · have t1 : decide ((k : Int) < (n4 : Int)) = true := decide_eq_true (by omega)
            have t1n : decide (k < n4) = true := decide_eq_true hkn
            have hkI : (k : Int) < (n4 : Int) := by omega
            by_cases hC : C'' ≤ 6000
            · have t2 : decide (C'' ≤ 6000) = true := decide_eq_true hC
              obtain ⟨bT, oT, rfl, hblt, hcell⟩ := PT.out.at_ (by omega)
              obtain ⟨A5, n5, c5, B5, m5, e5, hT0⟩ := hcell k hkn
              have TW := (TrA.mk hblt hT0).next X0.out.low
              have b1 := TW.is.c1
              have b2 := TW.is.c2
              clear TW hT0 hcell hC
              go_upto_region 16 with (fail)
              go_quiet (fail)
              have hdr := below_drewN (Below.refl wr.heap.size wr) nq
              have X1 := Lib.hid (X0.out.next hdr)
              clear hdr b1 b2 X0 t1 t1n t2
              generalize wr.drewN nq = W1 at X1 ⊢
              go_wp2
              go_roundw
              case measure => simp [intOf]; omega
              case rel => exact ⟨k + 1, by go_num, ⟨_, rfl⟩, by omega, X1.out⟩
            · have t2 : decide (C'' ≤ 6000) = false := decide_eq_false hC
              clear hC
              go_wp2
              go_roundw
              case measure => simp [intOf]; omega
              case rel => exact ⟨j + 1, by go_num, ⟨_, rfl⟩, by omega, X0.out⟩
          · have t1 : decide ((k : Int) < (n4 : Int)) = false := decide_eq_false (by omega)
            have t1n : decide (k < n4) = false := decide_eq_false hkn
            go_wp2
            go_roundw
            case measure => simp [intOf]; omega
            case rel => exact ⟨j + 1, by go_num, ⟨_, rfl⟩, by omega, X0.out⟩
       · have t2 : decide (C' ≤ 6000) = false := decide_eq_false hC
         have t3 : decide (6000 < C') = true := decide_eq_true (by omega)
         go_wp2
         go_ret
         exact LightP.no X0.out.low
     · have t1 : decide ((j : Int) < (p1 : Int)) = false := decide_eq_false (by omega)
       have t1n : decide (j < p1) = false := decide_eq_false hjp
       by_cases hC : 6000 < C'
       · have t3 : decide (6000 < C') = true := decide_eq_true hC
         go_wp2
         go_ret
         exact LightP.no X0.out.low
       · have t3 : decide (6000 < C') = false := decide_eq_false hC
         clear hC
         go_wp2
         go_roundw
         case measure => simp [intOf]; omega
         case rel => exact ⟨i + 1, by go_num, ⟨_, rfl⟩, by omega, X0.out⟩
  · have t1 : decide ((i : Int) < (n : Int)) = false := decide_eq_false (by omega)
    have t1n : decide (i < n) = false := decide_eq_false hin
    have a0 := X0.out.bx.c0
    go_wp2_with fail
    refine (refSysValid_c V A n c ls _ (HI.out.1.below X0.out.low)).mono ?_
    rintro e w1 ⟨rfl, hb⟩
    have X1 := Lib.hid (X0.out.next hb)
    clear hb a0 a1 X0 t1 t1n hin
    obtain ⟨v, hv⟩ : ∃ v, v = validS V ls := ⟨_, rfl⟩
    rw [← hv]
    have HV := Lib.hid hv
    clear hv
    cases v with
    | false =>
      go_wp2
      go_ret
      exact ⟨true, rfl, X1.out.low, fun _ hq => by rw [← HV.out] at hq; cases hq⟩
    | true =>
    have a0 := X1.out.bx.c0
    have a1 := X1.out.bx.c1
    by_cases hm : (nx : Int) = V
    case neg =>
     have t0 : ((nx : Int) != V) = true := by rw [bne_iff_ne]; exact hm
     have HM := Lib.hid hm
     clear hm
     go_wp2
     go_ret
     exact ⟨true, rfl, X1.out.low, fun _ _ hq => absurd hq HM.out⟩
    case pos =>
    have t0 : ((nx : Int) != V) = false := by rw [hm]; exact bne_self_eq_false _
    have HM := Lib.hid hm
    clear hm
    go_wp2_with fail
    refine (refSysLoad_c V A n c ls X nx cx ns _ (HI.out.1.below X1.out.low) (HI.out.2.below X1.out.low) HV.out.symm HM.out).mono ?_
    rintro e w2 ⟨v, rfl, hb, hs⟩
    have X2 := Lib.hid (X1.out.next hb)
    have HS := Lib.hid hs
    clear hb hs X1 a0 a1 t0
    go_wp2
    go_ret
    exact ⟨_, rfl, X2.out.low, fun hq _ _ hal => (HS.out hal).mono (of_decide_eq_true hq)⟩
structure B3 (w W : World) (a : Int) (t0 : Bool) (A0 : Option Addr) (n0 c0 : Nat) (b : Int) (t1 : Bool) (A1 : Option Addr) (n1 c1 : Nat) (c : Int) (t2 : Bool) (A2 : Option Addr) (n2 c2 : Nat) : Prop where
 low : Below w.heap.size w W
 ba : Box W w.heap.size a t0 A0 n0 c0
 bb : Box W (w.heap.size + 1) b t1 A1 n1 c1
 bc : Box W (w.heap.size + 1 + 1) c t2 A2 n2 c2
section
variable {w W W' : World} {a : Int} {t0 : Bool} {A0 : Option Addr} {n0 c0 : Nat} {b : Int} {t1 : Bool} {A1 : Option Addr} {n1 c1 : Nat} {c : Int} {t2 : Bool} {A2 : Option Addr} {n2 c2 : Nat}
theorem B3.next (h : B3 w W a t0 A0 n0 c0 b t1 A1 n1 c1 c t2 A2 n2 c2) (hb : Below W.heap.size W W') : B3 w W' a t0 A0 n0 c0 b t1 A1 n1 c1 c t2 A2 n2 c2 :=
 ⟨h.low.trans (hb.mono h.low.size), h.ba.next hb, h.bb.next hb, h.bc.next hb⟩
theorem B3.start (h0 : Is w a t0 A0 n0 c0) (h1 : Is w b t1 A1 n1 c1) (h2 : Is w c t2 A2 n2 c2) :
 B3 w (((w.alloc (.cells #[.bool t0, .slice A0 n0 c0] 24)).alloc (.cells #[.bool t1, .slice A1 n1 c1] 24)).alloc (.cells #[.bool t2, .slice A2 n2 c2] 24)) a t0 A0 n0 c0 b t1 A1 n1 c1 c t2 A2 n2 c2 := by
 have k0 := bel_alloc w (.cells #[.bool t0, .slice A0 n0 c0] 24)
 have k1 := bel_alloc (w.alloc (.cells #[.bool t0, .slice A0 n0 c0] 24)) (.cells #[.bool t1, .slice A1 n1 c1] 24)
 have k2 := bel_alloc ((w.alloc (.cells #[.bool t0, .slice A0 n0 c0] 24)).alloc (.cells #[.bool t1, .slice A1 n1 c1] 24)) (.cells #[.bool t2, .slice A2 n2 c2] 24)
 have e1 := Box.new ((h1.below k0))
 have e2 := Box.new ((h2.below k0).below k1)
 rw [World.size_alloc] at e1 e2
 rw [World.size_alloc] at e2
 exact ⟨(k0.trans (k1.mono k0.size)).trans (k2.mono (Nat.le_trans k0.size k1.size)), ((Box.new h0).next k1).next k2, e1.next k2, e2⟩
end
theorem pow_never {a b c : Int} (ha : 2 ≤ a) (hb : 9223372036854775808 ≤ b) (hc : Sz c 4096) : ¬ a ^ b.toNat = c := by
 intro e
 have h := pow_long (z := a) (k := b.toNat) (by
  have h1 : 2 ≤ a.natAbs := by omega
  rcases Nat.lt_or_ge 1 (blen a.natAbs) with h2 | h2
  · exact h2
  · have := blen_lt a.natAbs
    have h3 := Nat.pow_le_pow_right (n := 2) (by omega) h2
    omega) (by omega)
 rw [e] at h
 exact h hc.len
set_option maxHeartbeats 8000000 in
theorem isPower_c {w : World} {a : Int} {t0 : Bool} {A0 : Option Addr} {n0 c0 : Nat} {b : Int} {t1 : Bool} {A1 : Option Addr} {n1 c1 : Nat} {c : Int} {t2 : Bool} {A2 : Option Addr} {n2 c2 : Nat} (h0 : Iv w a t0 A0 n0 c0) (h1 : Iv w b t1 A1 n1 c1) (h2 : Iv w c t2 A2 n2 c2) :
 Calls Try.prog 41 #[.agg #[.bool t0, .slice A0 n0 c0], .agg #[.bool t1, .slice A1 n1 c1], .agg #[.bool t2, .slice A2 n2 c2]] w (IsB (decide (1 ≤ a ∧ 0 ≤ b ∧ a ^ b.toNat = c)) w) := by
 have E := Lib.hid (B3.start h0.is h1.is h2.is)
 have HS := Lib.hid (And.intro h0.sz (And.intro h1.sz h2.sz))
 clear h0 h1 h2
 go_enter Try.func41, Try.ntmps41
 go_upto_region 1 with (fail)
 generalize ((w.alloc (.cells #[.bool t0, .slice A0 n0 c0] 24)).alloc (.cells #[.bool t1, .slice A1 n1 c1] 24)).alloc (.cells #[.bool t2, .slice A2 n2 c2] 24) = W0 at E ⊢
 go_wp2_with fail
 refine (OfV 1 _ (by omega) (by omega)).mono ?_
 rintro e w1 ⟨t3, A3, n3, c3, rfl, hi, hb⟩
 replace E := Lib.hid (E.out.next hb)
 have k1 := bel_alloc w1 (.cells #[.bool t3, .slice A3 n3 c3] 24)
 have BO := Lib.hid (Box.new hi.is)
 have HO := Lib.hid hi.sz
 replace E := Lib.hid (E.out.next k1)
 clear hi hb k1
 go_upto_region 2 with (fail)
 generalize w1.alloc (.cells #[.bool t3, .slice A3 n3 c3] 24) = W1 at E BO ⊢
 generalize w1.heap.size = go_ at BO ⊢
 have x0 := E.out.ba.c0
 have x1 := E.out.ba.c1
 have o0 := BO.out.c0
 have o1 := BO.out.c1
 go_wp2_with fail
 refine (Less_c ⟨E.out.ba.is, HS.out.1⟩ ⟨BO.out.is, HO.out⟩).mono ?_
 rintro e w2 ⟨rfl, hb⟩
 replace E := Lib.hid (E.out.next hb)
 replace BO := Lib.hid (BO.out.next hb)
 clear hb x0 x1 o0 o1
 obtain ⟨v, hv⟩ : ∃ v, v = decide (a < 1) := ⟨_, rfl⟩
 rw [← hv]
 have HV := Lib.hid hv
 clear hv
 cases v with
 | true =>
   have HF := Lib.hid (show decide (1 ≤ a ∧ 0 ≤ b ∧ a ^ b.toNat = c) = false from decide_eq_false fun q => by
    have := of_decide_eq_true HV.out.symm
    omega)
   go_wp2
   go_ret
   exact ⟨by rw [HF.out] <;> rfl, E.out.low⟩
 | false =>
 have HA1 := Lib.hid (show 1 ≤ a by have := of_decide_eq_false HV.out.symm; omega)
 clear HV
 have HT1 := Lib.hid E.out.bb.is.1
 have y0 := E.out.bb.c0
 cases t1 with
 | true =>
   have HF := Lib.hid (show decide (1 ≤ a ∧ 0 ≤ b ∧ a ^ b.toNat = c) = false from decide_eq_false fun q => by
    have := of_decide_eq_true HT1.out.symm
    omega)
   go_wp2
   go_ret
   exact ⟨by rw [HF.out] <;> rfl, E.out.low⟩
 | false =>
 have HB0 := Lib.hid (show 0 ≤ b by have := of_decide_eq_false HT1.out.symm; omega)
 clear HT1
 have x0 := E.out.ba.c0
 have x1 := E.out.ba.c1
 have o0 := BO.out.c0
 have o1 := BO.out.c1
 go_wp2_with fail
 refine (Equal_c ⟨E.out.ba.is, HS.out.1⟩ ⟨BO.out.is, HO.out⟩).mono ?_
 rintro e w3 ⟨rfl, hb⟩
 replace E := Lib.hid (E.out.next hb)
 replace BO := Lib.hid (BO.out.next hb)
 clear hb x0 x1 o0 o1 y0
 obtain ⟨v, hv⟩ : ∃ v, v = decide (a = 1) := ⟨_, rfl⟩
 rw [← hv]
 have HV := Lib.hid hv
 clear hv
 cases v with
 | true =>
   have x0 := E.out.bc.c0
   have x1 := E.out.bc.c1
   have o0 := BO.out.c0
   have o1 := BO.out.c1
   go_wp2_with fail
   refine (Equal_c ⟨E.out.bc.is, HS.out.2.2⟩ ⟨BO.out.is, HO.out⟩).mono ?_
   rintro e w4 ⟨rfl, hb⟩
   replace E := Lib.hid (E.out.next hb)
   clear hb x0 x1 o0 o1
   have HF := Lib.hid (show decide (1 ≤ a ∧ 0 ≤ b ∧ a ^ b.toNat = c) = decide (c = 1) by
    have h1 := of_decide_eq_true HV.out.symm
    have h2 := HB0.out
    rw [h1, Int.one_pow]
    by_cases h : c = 1
    · rw [decide_eq_true h, decide_eq_true ⟨by omega, h2, h.symm⟩]
    · rw [decide_eq_false h, decide_eq_false (fun q => h q.2.2.symm)])
   go_wp2
   go_ret
   exact ⟨by rw [HF.out] <;> rfl, E.out.low⟩
 | false =>
 have HA2 := Lib.hid (show 2 ≤ a by have h1 := of_decide_eq_false HV.out.symm; have h2 := HA1.out; omega)
 clear HV
 have x0 := E.out.bb.c0
 have x1 := E.out.bb.c1
 obtain ⟨V, hV⟩ : ∃ V, V = b.natAbs := ⟨_, rfl⟩
 have hraw := E.out.bb.is.raw HS.out.2.1 (Nat.le_refl _)
 rw [← hV] at hraw
 have HRAW := Lib.hid hraw
 have HVB := Lib.hid hV
 clear hraw hV
 go_wp2_with fail
 refine (Small_c false A1 n1 c1 V _ HRAW.out.1 HRAW.out.2.1).mono ?_
 rintro e w4 ⟨rfl, hb⟩
 replace E := Lib.hid (E.out.next hb)
 clear hb x0 x1 HRAW
 obtain ⟨u, hu⟩ : ∃ u, u = smallB false V := ⟨_, rfl⟩
 rw [← hu]
 have HU := Lib.hid hu
 clear hu
 cases u with
 | false =>
   have HF := Lib.hid (show decide (1 ≤ a ∧ 0 ≤ b ∧ a ^ b.toNat = c) = false from decide_eq_false fun q => by
    have h1 := HU.out.symm
    simp only [smallB, Bool.false_eq_true, if_false, decide_eq_false_iff_not] at h1
    have h2 := HVB.out
    exact pow_never HA2.out (by omega) HS.out.2.2 q.2.2)
   simp only [Bool.false_eq_true, if_false]
   go_wp2
   go_ret
   exact ⟨by rw [HF.out] <;> rfl, E.out.low⟩
 | true =>
 have HK := Lib.hid (show V < 9223372036854775808 by
  have h1 := HU.out.symm
  simp only [smallB, Bool.false_eq_true, if_false, decide_eq_true_eq] at h1
  exact h1)
 have HBV := Lib.hid (show b.toNat = V by have := HVB.out; have := HB0.out; omega)
 rw [if_pos rfl, show sgn false V = (V : Int) from rfl]
 have x0 := E.out.ba.c0
 have x1 := E.out.ba.c1
 go_wp2_with fail
 refine (Power_is E.out.ba.is (E.out.ba.is.len HS.out.1) V HK.out).mono ?_
 rintro e w5 ⟨t5, A5, m5, d5, k5, rfl, hn, hb⟩
 replace E := Lib.hid (E.out.next hb)
 clear hb x0 x1
 by_cases hz : (words (a ^ V).natAbs).length ≤ 4096
 · obtain ⟨rfl, hi⟩ := hn.is_ hz
   have BP := Lib.hid (Box.new hi)
   replace E := Lib.hid (E.out.next (bel_alloc w5 (.cells #[.bool t5, .slice A5 m5 d5] 24)))
   have HZ := Lib.hid (show Sz (a ^ V) 4096 from sz_of_len hz)
   clear hn hi hz
   go_upto_region 10 with (fail)
   generalize w5.alloc (.cells #[.bool t5, .slice A5 m5 d5] 24) = W6 at E BP ⊢
   generalize w5.heap.size = gp at BP ⊢
   have x0 := E.out.bc.c0
   have x1 := E.out.bc.c1
   have o0 := BP.out.c0
   have o1 := BP.out.c1
   go_wp2_with fail
   refine (Equal_c ⟨BP.out.is, HZ.out⟩ ⟨E.out.bc.is, HS.out.2.2⟩).mono ?_
   rintro e w6 ⟨rfl, hb⟩
   replace E := Lib.hid (E.out.next hb)
   clear hb x0 x1 o0 o1
   have HF := Lib.hid (show decide (1 ≤ a ∧ 0 ≤ b ∧ a ^ b.toNat = c) = decide (a ^ V = c) by
    rw [HBV.out]
    by_cases h : a ^ V = c
    · rw [decide_eq_true h, decide_eq_true ⟨HA1.out, HB0.out, h⟩]
    · rw [decide_eq_false h, decide_eq_false (fun q => h q.2.2)])
   generalize decide (a ^ V = c) = v at HF ⊢
   go_wp2
   go_ret
   exact ⟨by rw [HF.out] <;> rfl, E.out.low⟩
 · obtain ⟨rfl, rfl, rfl, rfl, rfl⟩ := hn.2 hz
   have HF := Lib.hid (show decide (1 ≤ a ∧ 0 ≤ b ∧ a ^ b.toNat = c) = false from decide_eq_false fun q => by
    have h1 := q.2.2
    rw [HBV.out] at h1
    rw [h1] at hz
    exact hz HS.out.2.2.len)
   clear hn hz
   replace E := Lib.hid (E.out.next (bel_alloc w5 (.cells #[.bool false, .slice none 0 0] 24)))
   go_upto_region 10 with (fail)
   generalize w5.alloc (.cells #[.bool false, .slice none 0 0] 24) = W6 at E ⊢
   go_wp2
   go_ret
   exact ⟨by rw [HF.out] <;> rfl, E.out.low⟩
end Go.Proofs.Yteabokkofoomkaa
namespace Go.Proofs.Yteabokkofoomkaa
open Go.RowKit
set_option maxHeartbeats 400000 in
theorem Under_neg (s s' : Bool) (A A' : Option Addr) (n c n' c' : Nat) (xs ys : List Nat) (w : World) (h : Rd w A n xs) (h' : Rd w A' n' ys) (hv : (validB s xs && validB s' ys) = true) (hs : (s || s') = true) :
 Calls Try.prog 42 #[.agg #[.bool s, .slice A n c], .agg #[.bool s', .slice A' n' c']] w (fun e w' => e = .returned (.tuple #[.bool false, .int .i64 2]) ∧ Below w.heap.size w w') := by
 have HV := Lib.hid hv
 clear hv
 go_enter Try.func42, Try.ntmps42
 go_wp2_with fail
 have E := (Env2.start w s s' A A' n c n' c').alloc (.cells #[.bool s, .slice A n c, .bool s', .slice A' n' c'] 24)
 refine (allValid_c (w.heap.size + 1 + 1) s s' A A' n c n' c' xs ys _ (h.below E.below) (h'.below E.below) (by simp) (by go_simp) (by go_simp) (by go_simp) (by go_simp)).mono ?_
 rintro e w1 ⟨rfl, hb⟩
 rw [HV.out]
 have E1 := Lib.hid (E.next hb)
 clear E hb
 have a0 := E1.out.a0
 have b0 := E1.out.b0
 clear h h'
 rcases s with _ | _
 · obtain rfl : s' = true := by simpa using hs
   go_wp2
   go_ret2
   exact ⟨rfl, E1.out.below⟩
 · clear hs
   go_wp2
   go_ret2
   exact ⟨rfl, E1.out.below⟩
end Go.Proofs.Yteabokkofoomkaa

import Derived.Test.YteabokkofoomkaaGreatCak
import Derived.Test.YteabokkofoomkaaGreatCaq
import Derived.Test.YteabokkofoomkaaGreatCar
set_option maxRecDepth 100000
namespace Go.Proofs.YteabokkofoomkaaGreat
open Go.RowKit Go.Shelf Go.Deep
set_option maxHeartbeats 1000000 in
theorem refAbsP_c {w : World} {z : Int} {t : Bool} {A : Option Addr} {n c : Nat} (h : Is w z t A n c) (hn : n ≤ 17592186044416) :
 Calls Tryz.prog 64 #[.agg #[.bool t, .slice A n c]] w (NumI w (z.natAbs : Int)) := by
 have HI := Lib.hid h
 have HN := Lib.hid (show sgn false (val (words z.natAbs)) = (z.natAbs : Int) by rw [val_words]; rfl)
 clear h
 have hb : Below w.heap.size w ((w.alloc (.cells #[.bool t, .slice A n c] 58)).alloc (.cells #[.bool false, .slice none 0 0] 58)) := ((Below.refl _ _).alloc (Nat.le_refl _) _).alloc (by simp) _
 have R := Lib.hid (Res.new (w.alloc (.cells #[.bool t, .slice A n c] 58)))
 have HB := Lib.hid hb
 clear hb
 go_enter Tryz.func64, Tryz.ntmps64
 go_wp2_with fail
 refine (Make_i (HI.out.below HB.out).2.2.1 (HI.out).2.2.2.1 (HI.out).2.2.2.2 (by omega)).mono ?_
 rw [HN.out]
 rintro e w1 ⟨t', B, m, d, rfl, hi, hb1⟩
 have H := Lib.hid (HB.out.trans (hb1.mono HB.out.size))
 have R1 := Lib.hid (R.out.next hb1)
 have HH := Lib.hid hi
 clear hi hb1
 rw [World.size_alloc] at R1
 have r0 := R1.out.r0
 have r1 := R1.out.r1
 have f0 := R1.out.f0
 have f1 := R1.out.f1
 go_wp2
 refine bodyPost_ret (v := .agg #[.bool t', .slice B m d]) (by simp [results, Tryz.results64, go_sem, r0, r1]) rfl ?_
 exact ⟨t', B, m, d, rfl, HH.out.store r0 r1 _ _, below_store H.out (by omega) _ _⟩
def sE (es : List Int) : Nat → Nat
 | 0 => 0
 | k + 1 => sE es k + (es.getD k 0).toNat
theorem sE_sum (es : List Int) (h : ExpsIn es) : ∀ k, k ≤ es.length → (sE es k : Int) = sumI (es.take k) := by
 intro k
 induction k with
 | zero => intro _; simp [sE, sumI]
 | succ k ih =>
   intro hk
   have h1 := ih (by omega)
   have h2 := h k (by omega)
   rw [sumI_take es k (by omega)]
   show ((sE es k + (es.getD k 0).toNat : Nat) : Int) = _
   omega
theorem sE_mono (es : List Int) {j : Nat} : ∀ k, j ≤ k → sE es j ≤ sE es k := by
 intro k
 induction k with
 | zero => intro h; obtain rfl : j = 0 := by omega
           exact Nat.le_refl _
 | succ k ih =>
   intro h
   by_cases e : j = k + 1
   · subst e; exact Nat.le_refl _
   · exact Nat.le_trans (ih (by omega)) (Nat.le_add_right _ _)
theorem sE_le {t : Trm} {V : Int} (h : validTrm t V = true) {k : Nat} (hk : k ≤ t.es.length) : sE t.es k ≤ 120 := by
 have he := vt_exps h
 have h1 := sE_sum t.es he.1 t.es.length (Nat.le_refl _)
 rw [List.take_of_length_le (Nat.le_refl _)] at h1
 have h2 := sE_mono t.es t.es.length hk
 simp only [validTrm, validExps, Bool.and_eq_true, decide_eq_true_eq] at h
 have h3 := h.2.2
 omega
theorem BxP.oth {W : World} {g : Nat} {V : Int} {A : Option Addr} {n c : Nat} (h : BxP W g V A n c) {g' : Nat} (hne : g' ≠ g) (u v : Value) : BxP ((W.setCell ⟨g', 0, none⟩ u).setCell ⟨g', 1, none⟩ v) g V A n c :=
 ⟨by simpa [World.setCell] using h.lt, cell_two hne h.c0, cell_two hne h.c1⟩
theorem BxT.oth {W : World} {g : Nat} {s : Bool} {A : Option Addr} {n c : Nat} {B : Option Addr} {m d : Nat} (h : BxT W g s A n c B m d) {g' : Nat} (hne : g' ≠ g) (u v : Value) : BxT ((W.setCell ⟨g', 0, none⟩ u).setCell ⟨g', 1, none⟩ v) g s A n c B m d :=
 ⟨by simpa [World.setCell] using h.lt, cell_two hne h.c0, cell_two hne h.c1, cell_two hne h.c2⟩
structure VN (W : World) (g : Nat) (z : Int) (t : Bool) (B : Option Addr) (m d : Nat) : Prop where
 nv : NV W g t B m d
 is : Is W z t B m d
theorem VN.next {W W' : World} {g : Nat} {z : Int} {t : Bool} {B : Option Addr} {m d : Nat} (h : VN W g z t B m d) (hb : Below W.heap.size W W') : VN W' g z t B m d := ⟨h.nv.next hb, h.is.below hb⟩
theorem VN.oth {W : World} {g : Nat} {z : Int} {t : Bool} {B : Option Addr} {m d : Nat} (h : VN W g z t B m d) {g' : Nat} {t' : Bool} {B' : Option Addr} {m' d' : Nat} (h' : NV W g' t' B' m' d') (hne : g' ≠ g) (u v : Value) : VN ((W.setCell ⟨g', 0, none⟩ u).setCell ⟨g', 1, none⟩ v) g z t B m d :=
 ⟨h.nv.oth hne u v, h.is.store h'.r0 h'.r1 u v⟩
theorem VN.put {W : World} {g : Nat} {t : Bool} {B : Option Addr} {m d : Nat} (h : NV W g t B m d) {z' : Int} {t' : Bool} {B' : Option Addr} {m' d' : Nat} (h' : Is W z' t' B' m' d') : VN ((W.setCell ⟨g, 0, none⟩ (.bool t')).setCell ⟨g, 1, none⟩ (.slice B' m' d')) g z' t' B' m' d' :=
 ⟨h.put t' B' m' d', h'.store h.r0 h.r1 _ _⟩
structure EV (w W : World) (g : Nat) (V : Int) (A : Option Addr) (n c : Nat) (zO : Int) (tO : Bool) (BO : Option Addr) (mO dO : Nat) (zA : Int) (tA : Bool) (BA : Option Addr) (mA dA : Nat) : Prop where
 low : Below w.heap.size w W
 bx : BxP W g V A n c
 rs : NV W (g + 1) false none 0 0
 o : VN W (g + 2) zO tO BO mO dO
 a : VN W (g + 3) zA tA BA mA dA
theorem EV.next {w W W' : World} {g : Nat} {V : Int} {A : Option Addr} {n c : Nat} {zO : Int} {tO : Bool} {BO : Option Addr} {mO dO : Nat} {zA : Int} {tA : Bool} {BA : Option Addr} {mA dA : Nat} (h : EV w W g V A n c zO tO BO mO dO zA tA BA mA dA) (hb : Below W.heap.size W W') : EV w W' g V A n c zO tO BO mO dO zA tA BA mA dA :=
 ⟨h.low.trans (hb.mono h.low.size), h.bx.next hb, h.rs.next hb, h.o.next hb, h.a.next hb⟩
theorem EV.oth {w W : World} {g : Nat} {V : Int} {A : Option Addr} {n c : Nat} {zO : Int} {tO : Bool} {BO : Option Addr} {mO dO : Nat} {zA : Int} {tA : Bool} {BA : Option Addr} {mA dA : Nat} (h : EV w W g V A n c zO tO BO mO dO zA tA BA mA dA) (hw : w.heap.size ≤ g) {g' : Nat} {t' : Bool} {B' : Option Addr} {m' d' : Nat} (h' : NV W g' t' B' m' d') (hne : g + 3 < g') (u v : Value) : EV w ((W.setCell ⟨g', 0, none⟩ u).setCell ⟨g', 1, none⟩ v) g V A n c zO tO BO mO dO zA tA BA mA dA :=
 ⟨below_store h.low (by omega) u v, h.bx.oth (by omega) u v, h.rs.oth (by omega) u v, h.o.oth h' (by omega) u v, h.a.oth h' (by omega) u v⟩
def longB (ts : List Trm) (ns : List Nmr) (k : Nat) : Bool := !decide (allV ts ns k < pw 4096)
def REvalR (ts : List Trm) (ns : List Nmr) (w : World) (e : Ending) (w' : World) : Prop :=
 ∃ t B m d, e = .returned (.tuple #[.agg #[.bool t, .slice B m d], .bool (longB ts ns ts.length)]) ∧ Is w' (pVal ts ns) t B m d ∧ Sz (pVal ts ns) 500000 ∧ Below w.heap.size w w'
set_option maxHeartbeats 8000000 in
theorem refPolyEval_c (V : Int) (A : Option Addr) (n c : Nat) (ts : List Trm) (C : Option Addr) (m cd : Nat) (ns : List Nmr) (w : World) (h : RdT w A n ts) (h' : RdN w C m ns) (hv : validP V ts = true) (hu : allB ns = true) (hm : (m : Int) = V) :
 Calls Tryz.prog 25 #[aggP V A n c, .slice C m cd] w (REvalR ts ns w) := by
 have HI := Lib.hid (And.intro h h')
 have HV := Lib.hid hv
 have HU := Lib.hid hu
 have HMV := Lib.hid hm
 have HBD := Lib.hid (vp_bounds hv)
 have HL := Lib.hid (And.intro h.len h'.len)
 have E := Lib.hid (show EV w ((((w.alloc (boxP V A n c)).alloc (.cells #[.bool false, .slice none 0 0] 58)).alloc (.cells #[.bool false, .slice none 0 0] 58)).alloc (.cells #[.bool false, .slice none 0 0] 58)) w.heap.size V A n c 0 false none 0 0 0 false none 0 0 from by
  have k0 := bel_alloc w (boxP V A n c)
  have k1 := bel_alloc (w.alloc (boxP V A n c)) (.cells #[.bool false, .slice none 0 0] 58)
  have k2 := bel_alloc ((w.alloc (boxP V A n c)).alloc (.cells #[.bool false, .slice none 0 0] 58)) (.cells #[.bool false, .slice none 0 0] 58)
  have k3 := bel_alloc (((w.alloc (boxP V A n c)).alloc (.cells #[.bool false, .slice none 0 0] 58)).alloc (.cells #[.bool false, .slice none 0 0] 58)) (.cells #[.bool false, .slice none 0 0] 58)
  have r1 := ((NV.new (w.alloc (boxP V A n c)) false none 0 0).next k2).next k3
  have r2 := (NV.new ((w.alloc (boxP V A n c)).alloc (.cells #[.bool false, .slice none 0 0] 58)) false none 0 0).next k3
  have r3 := NV.new (((w.alloc (boxP V A n c)).alloc (.cells #[.bool false, .slice none 0 0] 58)).alloc (.cells #[.bool false, .slice none 0 0] 58)) false none 0 0
  simp only [World.size_alloc] at r1 r2 r3
  exact ⟨((k0.trans (k1.mono k0.size)).trans (k2.mono (Nat.le_trans k0.size k1.size))).trans (k3.mono (Nat.le_trans (Nat.le_trans k0.size k1.size) k2.size)), (((BxP.new w V A n c).next k1).next k2).next k3, r1, ⟨r2, zero_is _⟩, ⟨r3, zero_is _⟩⟩)
 clear h h' hv hu hm
 go_enter Tryz.func25, Tryz.ntmps25
 go_wp2
 generalize (((w.alloc (boxP V A n c)).alloc (.cells #[.bool false, .slice none 0 0] 58)).alloc (.cells #[.bool false, .slice none 0 0] 58)).alloc (.cells #[.bool false, .slice none 0 0] 58) = W0 at E ⊢
 obtain ⟨g, hg⟩ : ∃ g, g = w.heap.size := ⟨_, rfl⟩
 have HG := Lib.hid (show w.heap.size ≤ g by omega)
 rw [← hg] at E ⊢
 clear hg
 go_loopw [8, 9] (fun v8 v wr => ∃ (j : Nat) (tO : Bool) (BO : Option Addr) (mO dO : Nat) (tA : Bool) (BA : Option Addr) (mA dA : Nat), v = .int .i64 (j : Int) ∧ v8 = .bool (longB ts ns j) ∧ j ≤ n ∧ EV w wr g V A n c (sumV ts ns j) tO BO mO dO (allV ts ns j : Int) tA BA mA dA ∧ Sz (sumV ts ns j) (495616 + j) ∧ Sz (allV ts ns j : Int) (495616 + j)) (fun _ v _ => n - (intOf v).toNat)
 case atStart => exact ⟨0, false, none, 0, 0, false, none, 0, 0, rfl, by
  unfold longB
  rw [show allV ts ns 0 = 0 from rfl, decide_eq_true (pw_pos 4096)]
  rfl, Nat.zero_le _, E.out, pw_pos _, pw_pos _⟩
 case round =>
  obtain ⟨j, tO, BO, mO, dO, tA, BA, mA, dA, rfl, rfl, hj, hE, hz1, hz2⟩ := hrel
  clear E
  have hnn : n ≤ 3000 := by have h1 := HBD.out.2.2; have h2 := HL.out.1; omega
  have E := Lib.hid hE
  have HZ := Lib.hid (And.intro hz1 hz2)
  clear hE hz1 hz2
  have a1 := E.out.bx.c1
  by_cases hjn : j < n
  · have t1 : decide ((j : Int) < (n : Int)) = true := decide_eq_true (by omega)
    have t1n : decide (j < n) = true := decide_eq_true hjn
    have hjI : (j : Int) < (n : Int) := by omega
    obtain ⟨bT, oT, rfl, hblt, hcell⟩ := HI.out.1.at_ (by omega)
    obtain ⟨A1, n1, c1, B1, m1, d1, hT0⟩ := hcell j hjn
    have T0 := Lib.hid (TrA.mk hblt hT0)
    have HVT := Lib.hid (vp_at HV.out (k := j) (by rw [HL.out.1]; exact hjn))
    have HSN := Lib.hid (And.intro (show sumV ts ns (j + 1) = sumV ts ns j + tVal (trmAt ts j) ns from rfl) (show allV ts ns (j + 1) = allV ts ns j + (tVal (trmAt ts j) ns).natAbs from rfl))
    obtain ⟨tt, htt⟩ : ∃ t, t = trmAt ts j := ⟨_, rfl⟩
    rw [← htt] at T0 HVT HSN
    clear hcell hT0 htt hblt
    obtain ⟨s, xs, es⟩ := tt
    obtain ⟨he, hlen⟩ := vt_exps HVT.out
    obtain rfl : m = m1 := by
     have e1 := T0.out.is.ri.len
     have e2 := HMV.out
     dsimp only at e1 hlen
     omega
    obtain ⟨hvb, hxl⟩ := vt_coef HVT.out
    have HLE := Lib.hid (show es.length = m from T0.out.is.ri.len)
    have HSE := Lib.hid (fun k (hk : k ≤ m) => (sE_le HVT.out (k := k) (by show k ≤ es.length; rw [HLE.out]; exact hk) : sE es k ≤ 120))
    have HEI := Lib.hid he
    have HCF := Lib.hid (rawIv T0.out.is.rd hvb T0.out.is.nc T0.out.is.cm)
    dsimp only at HCF
    clear he hlen hvb hxl
    have TW := T0.out.next E.out.low
    have c0 := TW.is.c0
    have c1' := TW.is.c1
    have c2 := TW.is.c2
    dsimp only at c0
    have hlt9 := TW.lt
    clear TW
    have gl : g < wr.heap.size := E.out.bx.lt
    have k0 := bel_alloc wr (boxT s A1 n1 c1 B1 m d1)
    have k1 := bel_alloc (wr.alloc (boxT s A1 n1 c1 B1 m d1)) (.cells #[.bool s, .slice A1 n1 c1] 58)
    have X10 := Lib.hid ((BxT.new wr s A1 n1 c1 B1 m d1).next k1)
    have Y0 := Lib.hid (NV.new (wr.alloc (boxT s A1 n1 c1 B1 m d1)) s A1 n1 c1)
    rw [World.size_alloc] at Y0
    obtain ⟨q, hq⟩ : ∃ q, q = wr.heap.size := ⟨_, rfl⟩
    have HQ := Lib.hid (show g + 3 < q by have := E.out.a.nv.lt; omega)
    rw [← hq] at X10 Y0
    go_upto_region 8 with (fail)
    rw [← hq]
    replace E := Lib.hid ((E.out.next k0).next k1)
    clear hq k0 k1 c0 c1' c2 hlt9 gl a1 t1 t1n
    generalize (wr.alloc (boxT s A1 n1 c1 B1 m d1)).alloc (.cells #[.bool s, .slice A1 n1 c1] 58) = W3 at E X10 Y0 ⊢
    have Y := Lib.hid (show VN W3 (q + 1) (trZ ⟨s, xs, es⟩ * prodI es ns 0) s A1 n1 c1 from ⟨Y0.out, by
     rw [show prodI es ns 0 = 1 from rfl, Int.mul_one]
     exact HCF.out.is.below E.out.low⟩)
    clear Y0
    go_loopw [12] (fun v wr => ∃ (k : Nat) (t' : Bool) (B' : Option Addr) (m' d' : Nat), v = .int .i64 (k : Int) ∧ k ≤ m ∧ EV w wr g V (some ⟨bT, oT, none⟩) n c (sumV ts ns j) tO BO mO dO (allV ts ns j : Int) tA BA mA dA ∧ BxT wr q s A1 n1 c1 B1 m d1 ∧ VN wr (q + 1) (trZ ⟨s, xs, es⟩ * prodI es ns k) t' B' m' d' ∧ Sz (trZ ⟨s, xs, es⟩ * prodI es ns k) (4096 * (1 + sE es k))) (fun v _ => m - (intOf v).toNat)
    case atStart => exact ⟨0, s, A1, n1, c1, rfl, Nat.zero_le _, E.out, X10.out, Y.out, by
     rw [show prodI es ns 0 = 1 from rfl, Int.mul_one]
     exact HCF.out.sz⟩
    case round =>
     obtain ⟨k, t', B', m', d', rfl, hk, hE, hX, hY, hS⟩ := hrel
     clear E X10 Y
     have hmm : m ≤ 32 := by have h1 := HBD.out.2.1; have h2 := HMV.out; omega
     have E := Lib.hid hE
     have X10 := Lib.hid hX
     have Y := Lib.hid hY
     have HS := Lib.hid hS
     clear hE hX hY hS
     have a0 := E.out.bx.c0
     by_cases hkm : k < m
     · have t1 : decide ((k : Int) < V) = true := decide_eq_true (by have := HMV.out; omega)
       have hkI : (k : Int) < (m : Int) := by omega
       obtain ⟨bN, oN, rfl, hltN, hcN⟩ := HI.out.2.at_ (by omega)
       obtain ⟨A2, n2, c2, hN⟩ := hcN k hkm
       have N0 := Lib.hid (NmA.mk hltN hN)
       have HVN := Lib.hid (show validB (nmAt ns k).s (nmAt ns k).xs = true by have := HU.out; simp only [allB, decide_eq_true_eq] at this; exact this k (by rw [HL.out.2]; exact hkm))
       have HPS := Lib.hid (show prodI es ns (k + 1) = prodI es ns k * nmZ (nmAt ns k) ^ (es.getD k 0).toNat from rfl)
       have HSK := Lib.hid (show sE es (k + 1) = sE es k + (es.getD k 0).toNat from rfl)
       have HS1 := Lib.hid (HSE.out (k + 1) hkm)
       obtain ⟨bE, oE, hBE, hltE, hcE⟩ := T0.out.is.ri.at_ (by omega)
       have HCE := Lib.hid (And.intro hltE (hcE k hkm))
       dsimp only at HCE
       obtain ⟨x, hx⟩ := Int.eq_ofNat_of_zero_le (HEI.out k (by show k < es.length; rw [HLE.out]; exact hkm)).1
       rw [hx] at HCE
       rw [hx, show ((x : Int)).toNat = x from Int.toNat_natCast x] at HPS HSK
       have HX := Lib.hid hx
       obtain ⟨⟨sN, xN⟩, hnm⟩ : ∃ q, q = nmAt ns k := ⟨_, rfl⟩
       rw [← hnm] at N0 HVN HPS
       have HIN := Lib.hid (show ∀ W, Below w.heap.size w W → Iv W (nmZ ⟨sN, xN⟩) sN A2 n2 c2 from fun W hb => rawIv (N0.out.is.rd.below hb) HVN.out N0.out.is.nc N0.out.is.cm)
       subst hBE
       clear hcN hN hnm hltN hcE hltE hx
       go_wp2
       clear t1 a0
       go_loopw [13] (fun v wr => ∃ (p : Nat) (t' : Bool) (B' : Option Addr) (m' d' : Nat), v = .int .i64 (p : Int) ∧ p ≤ x ∧ EV w wr g V (some ⟨bT, oT, none⟩) n c (sumV ts ns j) tO BO mO dO (allV ts ns j : Int) tA BA mA dA ∧ BxT wr q s A1 n1 c1 (some ⟨bE, oE, none⟩) m d1 ∧ VN wr (q + 1) (trZ ⟨s, xs, es⟩ * prodI es ns k * nmZ ⟨sN, xN⟩ ^ p) t' B' m' d' ∧ Sz (trZ ⟨s, xs, es⟩ * prodI es ns k * nmZ ⟨sN, xN⟩ ^ p) (4096 * (1 + sE es k + p))) (fun v _ => x - (intOf v).toNat)
       case atStart => exact ⟨0, t', B', m', d', rfl, Nat.zero_le _, E.out, X10.out, by rw [Int.pow_zero, Int.mul_one]; exact Y.out, by rw [Int.pow_zero, Int.mul_one]; exact HS.out⟩
       case round =>
        obtain ⟨p, t', B', m', d', rfl, hp, hE, hX, hY, hS⟩ := hrel
        clear E X10 Y HS
        have hx120 : x ≤ 120 := by have h1 := HS1.out; have h2 := HSK.out; omega
        have E := Lib.hid hE
        have X10 := Lib.hid hX
        have Y := Lib.hid hY
        have HS := Lib.hid hS
        clear hE hX hY hS
        have b2 := X10.out.c2
        have c0 := (E.out.low.cell (p := ⟨bE, oE + k, none⟩) HCE.out.1).trans HCE.out.2
        by_cases hpx : p < x
        · have t1 : decide ((p : Int) < (x : Int)) = true := decide_eq_true (by omega)
          have t1n : decide (p < x) = true := decide_eq_true hpx
          have HSP := Lib.hid (show 4096 * (1 + sE es k + p) ≤ 500000 by have h1 := HS1.out; have h2 := HSK.out; omega)
          have XE := Lib.hid (N0.out.next E.out.low)
          go_upto_region 13 with (fail)
          clear b2 c0
          refine wp_region_tail (S := (fun w' => w'.cell? ⟨(q + 1), 0, none⟩ = some (.bool t') ∧ w'.cell? ⟨(q + 1), 1, none⟩ = some (.slice B' m' d') ∧ w'.cell? ⟨bN, oN + k * 2, none⟩ = some (.bool sN) ∧ w'.cell? ⟨bN, oN + k * 2 + 1, none⟩ = some (.slice A2 n2 c2))) 6 (by kernel_rfl) (by kernel_rfl) (by intro c a d v w h; cases d <;> exact h) (⟨cell_drq Y.out.nv.r0, cell_drq Y.out.nv.r1, cell_drq XE.out.is.c0, cell_drq XE.out.is.c1⟩) (fun QT hT hP hHeld => ?_)
          simp only [List.extract_toArray, List.extract_eq_take_drop, List.drop_zero, Nat.sub_zero, List.take_succ_cons, List.take_zero]
          have HT := Lib.hid hT
          clear hT
          replace E := Lib.hid (E.out.next (Below.refl wr.heap.size wr).drew)
          replace X10 := Lib.hid (X10.out.next (Below.refl wr.heap.size wr).drew)
          replace Y := Lib.hid (Y.out.next (Below.refl wr.heap.size wr).drew)
          replace XE := Lib.hid (XE.out.next (Below.refl wr.heap.size wr).drew)
          generalize wr.drew = D1 at E X10 Y XE hHeld ⊢
          refine tkk 0 45 rfl rfl (by kernel_rfl) (hP · · _) (by rfl) (fun w h => by obtain ⟨h0, h1, h2, h3⟩ := h; go_simp; rfl) (by assumption) ?_
          simp only [set0, set1]
          refine tkk 1 46 rfl rfl (by kernel_rfl) (hP · · _) (by rfl) (fun w h => by obtain ⟨h0, h1, h2, h3⟩ := h; go_simp; rfl) (by assumption) ?_
          simp only [set0, set1]
          refine tkk 2 47 rfl rfl (by kernel_rfl) (hP · · _) (by rfl) (fun w h => by obtain ⟨h0, h1, h2, h3⟩ := h; go_simp; rfl) (by assumption) ?_
          simp only [set0, set1]
          refine tkk 3 48 rfl rfl (by kernel_rfl) (hP · · _) (by rfl) (fun w h => by obtain ⟨h0, h1, h2, h3⟩ := h; go_simp; rfl) (by assumption) ?_
          simp only [set0, set1]
          refine tkk 4 49 rfl rfl (by kernel_rfl) (hP · · _) (by rfl) (fun w h => by obtain ⟨h0, h1, h2, h3⟩ := h; go_simp; rfl) (by assumption) ?_
          simp only [set0, set1]
          refine wpAnyH_ready (rs := [5]) (by kernel_rfl) (by simp) ?_
          refine AllReadyH.cons rfl (fun K hK => ?_) AllReadyH.nil
          go_simp
          refine (refMul_c Y.out.is (HIN.out D1 E.out.low).is (Nat.le_trans (Y.out.is.len HS.out) (by have := HSP.out; omega)) (Nat.le_trans ((HIN.out D1 E.out.low).is.len (HIN.out D1 E.out.low).sz) (by omega))).mono ?_
          rintro e v2 ⟨t3, B3, m3, d3, rfl, h3, hb⟩
          have I3 := Lib.hid h3
          replace E := Lib.hid (E.out.next hb)
          replace X10 := Lib.hid (X10.out.next hb)
          replace Y := Lib.hid (Y.out.next hb)
          replace XE := Lib.hid (XE.out.next hb)
          clear hb hHeld h3
          refine hK.out _ _ (⟨Y.out.nv.r0, Y.out.nv.r1, XE.out.is.c0, XE.out.is.c1⟩) (fun hHeld => ?_)
          clear hK K
          clear hHeld
          refine wpAnyH_done (by kernel_rfl) ?_ _
          refine HT.out _ _ ?_
          clear HT hP QT
          have r0 := Y.out.nv.r0
          have r1 := Y.out.nv.r1
          have f0 := Y.out.nv.f0
          have f1 := Y.out.nv.f1
          refine wpList_step fun K hK => ?_
          go_simp
          refine hK _ _ ?_
          clear hK K
          refine wpList_nil ?_
          have EN := Lib.hid (E.out.oth HG.out Y.out.nv (by have := HQ.out; omega) (.bool t3) (.slice B3 m3 d3))
          have XN := Lib.hid (X10.out.oth (g' := q + 1) (by omega) (.bool t3) (.slice B3 m3 d3))
          have YN := Lib.hid (VN.put Y.out.nv I3.out)
          have SN := Lib.hid (HS.out.mul (HIN.out _ E.out.low).sz)
          clear r0 r1 f0 f1 E Y X10 XE I3
          go_wp2
          go_roundw
          case measure => simp [intOf]; omega
          case rel => exact ⟨p + 1, t3, B3, m3, d3, by go_num, by omega, EN.out, XN.out, by rw [Int.pow_succ, ← Int.mul_assoc]; exact YN.out, by rw [Int.pow_succ, ← Int.mul_assoc]; exact SN.out.le (by omega)⟩
        · have t1 : decide ((p : Int) < (x : Int)) = false := decide_eq_false (by omega)
          have t1n : decide (p < x) = false := decide_eq_false hpx
          obtain rfl : p = x := by omega
          go_wp2
          clear t1 t1n b2 c0
          go_roundw
          case measure => simp [intOf]; omega
          case rel => exact ⟨k + 1, t', B', m', d', by go_num, by omega, E.out, X10.out, by rw [HPS.out, ← Int.mul_assoc]; exact Y.out, by rw [HPS.out, ← Int.mul_assoc, HSK.out]; exact HS.out.le (by omega)⟩
     · have t1 : decide ((k : Int) < V) = false := decide_eq_false (by have := HMV.out; omega)
       obtain rfl : k = es.length := by rw [HLE.out]; omega
       have HTS := Lib.hid (show Sz (tVal ⟨s, xs, es⟩ ns) 495616 from HS.out.le (by have := HSE.out _ hk; omega))
       have HYN := Lib.hid (show VN wr (q + 1) (tVal ⟨s, xs, es⟩ ns) t' B' m' d' from Y.out)
       clear Y
       have Y := HYN
       clear HYN
       go_upto_region 14 with (fail)
       clear t1 a0
       refine wp_region_tail (S := (fun w' => w'.cell? ⟨(g + 2), 0, none⟩ = some (.bool tO) ∧ w'.cell? ⟨(g + 2), 1, none⟩ = some (.slice BO mO dO) ∧ w'.cell? ⟨(g + 3), 0, none⟩ = some (.bool tA) ∧ w'.cell? ⟨(g + 3), 1, none⟩ = some (.slice BA mA dA) ∧ w'.cell? ⟨(q + 1), 0, none⟩ = some (.bool t') ∧ w'.cell? ⟨(q + 1), 1, none⟩ = some (.slice B' m' d'))) 7 (by kernel_rfl) (by kernel_rfl) (by intro c a d v w h; cases d <;> exact h) (⟨cell_drq E.out.o.nv.r0, cell_drq E.out.o.nv.r1, cell_drq E.out.a.nv.r0, cell_drq E.out.a.nv.r1, cell_drq Y.out.nv.r0, cell_drq Y.out.nv.r1⟩) (fun QT hT hP hHeld => ?_)
       simp only [List.extract_toArray, List.extract_eq_take_drop, List.drop_zero, Nat.sub_zero, List.take_succ_cons, List.take_zero]
       have HT := Lib.hid hT
       clear hT
       replace E := Lib.hid (E.out.next (Below.refl wr.heap.size wr).drew)
       replace X10 := Lib.hid (X10.out.next (Below.refl wr.heap.size wr).drew)
       replace Y := Lib.hid (Y.out.next (Below.refl wr.heap.size wr).drew)
       generalize wr.drew = D3 at E X10 Y hHeld ⊢
       refine tkk 0 51 rfl rfl (by kernel_rfl) (hP · · _) (by rfl) (fun w h => by obtain ⟨h0, h1, h2, h3, h4, h5⟩ := h; go_simp; rfl) (by assumption) ?_
       simp only [set0, set1]
       refine tkk 1 52 rfl rfl (by kernel_rfl) (hP · · _) (by rfl) (fun w h => by obtain ⟨h0, h1, h2, h3, h4, h5⟩ := h; go_simp; rfl) (by assumption) ?_
       simp only [set0, set1]
       refine tkk 3 54 rfl rfl (by kernel_rfl) (hP · · _) (by rfl) (fun w h => by obtain ⟨h0, h1, h2, h3, h4, h5⟩ := h; go_simp; rfl) (by assumption) ?_
       simp only [set0, set1]
       refine tkk 4 55 rfl rfl (by kernel_rfl) (hP · · _) (by rfl) (fun w h => by obtain ⟨h0, h1, h2, h3, h4, h5⟩ := h; go_simp; rfl) (by assumption) ?_
       simp only [set0, set1]
       refine wpAnyH_ready (rs := [2]) (by kernel_rfl) (by simp) ?_
       refine AllReadyH.cons rfl (fun K hK => ?_) AllReadyH.nil
       go_simp
       refine (refAdd_c E.out.o.is Y.out.is (Nat.le_trans (E.out.o.is.len HZ.out.1) (by omega)) (Nat.le_trans (Y.out.is.len HTS.out) (by omega))).mono ?_
       rintro e v4 ⟨t3, B3, m3, d3, rfl, h3, hb⟩
       replace E := Lib.hid (E.out.next hb)
       replace X10 := Lib.hid (X10.out.next hb)
       replace Y := Lib.hid (Y.out.next hb)
       have I3 := Lib.hid h3
       clear hb hHeld h3
       refine hK.out _ _ (⟨E.out.o.nv.r0, E.out.o.nv.r1, E.out.a.nv.r0, E.out.a.nv.r1, Y.out.nv.r0, Y.out.nv.r1⟩) (fun hHeld => ?_)
       clear hK K
       refine wpAnyH_ready (rs := [5]) (by kernel_rfl) (by simp) ?_
       refine AllReadyH.cons rfl (fun K hK => ?_) AllReadyH.nil
       go_simp
       refine (refAbsP_c Y.out.is (Nat.le_trans (Y.out.is.len HTS.out) (by omega))).mono ?_
       rintro e v5 ⟨t4, B4, m4, d4, rfl, h4, hb⟩
       replace E := Lib.hid (E.out.next hb)
       replace X10 := Lib.hid (X10.out.next hb)
       replace Y := Lib.hid (Y.out.next hb)
       replace I3 := Lib.hid (I3.out.below hb)
       have I4 := Lib.hid h4
       clear hb hHeld h4
       refine hK.out _ _ (⟨E.out.o.nv.r0, E.out.o.nv.r1, E.out.a.nv.r0, E.out.a.nv.r1, Y.out.nv.r0, Y.out.nv.r1⟩) (fun hHeld => ?_)
       clear hK K
       refine wpAnyH_ready (rs := [6]) (by kernel_rfl) (by simp) ?_
       refine AllReadyH.cons rfl (fun K hK => ?_) AllReadyH.nil
       go_simp
       refine (refAdd_c E.out.a.is I4.out (Nat.le_trans (E.out.a.is.len HZ.out.2) (by omega)) (Nat.le_trans (I4.out.len (show Sz ((tVal ⟨s, xs, es⟩ ns).natAbs : Int) 495616 from by have := HTS.out; unfold Sz at this ⊢; simpa using this)) (by omega))).mono ?_
       rintro e v6 ⟨t5, B5, m5, d5, rfl, h5, hb⟩
       replace E := Lib.hid (E.out.next hb)
       replace X10 := Lib.hid (X10.out.next hb)
       replace Y := Lib.hid (Y.out.next hb)
       replace I3 := Lib.hid (I3.out.below hb)
       replace I4 := Lib.hid (I4.out.below hb)
       have I5 := Lib.hid h5
       clear hb hHeld h5
       refine hK.out _ _ (⟨E.out.o.nv.r0, E.out.o.nv.r1, E.out.a.nv.r0, E.out.a.nv.r1, Y.out.nv.r0, Y.out.nv.r1⟩) (fun hHeld => ?_)
       clear hK K
       clear hHeld
       refine wpAnyH_done (by kernel_rfl) ?_ _
       refine HT.out _ _ ?_
       clear HT hP QT
       have r0 := E.out.o.nv.r0
       have r1 := E.out.o.nv.r1
       have f0 := E.out.o.nv.f0
       have f1 := E.out.o.nv.f1
       have s0 := E.out.a.nv.r0
       have s1 := E.out.a.nv.r1
       have u0 := E.out.a.nv.f0
       have u1 := E.out.a.nv.f1
       refine wpList_step fun K hK => ?_
       go_simp
       refine hK _ _ ?_
       clear hK K
       refine wpList_step fun K hK => ?_
       go_simp
       refine hK _ _ ?_
       clear hK K
       refine wpList_nil ?_
       have J5 := I5.out.store r0 r1 (.bool t3) (.slice B3 m3 d3)
       have O1 := VN.put E.out.o.nv I3.out
       have A1' := E.out.a.nv.oth (g' := g + 2) (by omega) (.bool t3) (.slice B3 m3 d3)
       have EN := Lib.hid (show EV w _ g V (some ⟨bT, oT, none⟩) n c (sumV ts ns (j + 1)) t3 B3 m3 d3 (allV ts ns (j + 1) : Int) t5 B5 m5 d5 from ⟨below_store (below_store E.out.low (g := g + 2) (by have := HG.out; omega) (.bool t3) (.slice B3 m3 d3)) (g := g + 3) (by have := HG.out; omega) (.bool t5) (.slice B5 m5 d5), (E.out.bx.oth (g' := g + 2) (by omega) _ _).oth (g' := g + 3) (by omega) _ _, (E.out.rs.oth (g' := g + 2) (by omega) _ _).oth (g' := g + 3) (by omega) _ _, by rw [HSN.out.1]; exact O1.oth A1' (by omega) _ _, by rw [HSN.out.2, Int.natCast_add]; exact VN.put A1' J5⟩)
       clear r0 r1 f0 f1 s0 s1 u0 u1 J5 O1 A1' E Y X10 I3 I4 I5
       have HZ1 := Lib.hid (show Sz (sumV ts ns (j + 1)) (495616 + (j + 1)) by rw [HSN.out.1]; exact (HZ.out.1.add (HTS.out.le (by omega))))
       have HZ2 := Lib.hid (show Sz (allV ts ns (j + 1) : Int) (495616 + (j + 1)) by rw [HSN.out.2, Int.natCast_add]; exact (HZ.out.2.add ((show Sz ((tVal ⟨s, xs, es⟩ ns).natAbs : Int) 495616 from by have := HTS.out; unfold Sz at this ⊢; simpa using this).le (by omega))))
       have y0 := EN.out.a.nv.r0
       have y1 := EN.out.a.nv.r1
       generalize World.setCell _ _ _ = W9 at EN y0 y1 ⊢
       have HLB := Lib.hid (show longB ts ns (j + 1) = (longB ts ns j || !decide (m5 ≤ 4096)) by
        have hm5 : m5 ≤ 4096 ↔ allV ts ns (j + 1) < pw 4096 := by
         rw [EN.out.a.is.2.1, words_len_le]
         show (allV ts ns (j + 1) : Int).natAbs < _ ↔ _
         rw [Int.natAbs_natCast]
        unfold longB
        by_cases q1 : allV ts ns (j + 1) < pw 4096
        · have q0 : allV ts ns j < pw 4096 := Nat.lt_of_le_of_lt (allV_le ts ns (j + 1) (Nat.le_succ j)) q1
          rw [decide_eq_true q0, decide_eq_true q1, decide_eq_true (hm5.2 q1)]; rfl
        · rw [decide_eq_false q1, decide_eq_false (fun h => q1 (hm5.1 h))]; simp)
       obtain ⟨lb, hlb⟩ : ∃ b, b = longB ts ns j := ⟨_, rfl⟩
       rw [← hlb] at HLB
       simp only [← hlb]
       clear hlb
       cases lb with
       | true =>
         go_wp2
         go_roundw
         case measure => simp [intOf]; omega
         case rel => exact ⟨j + 1, t3, B3, m3, d3, t5, B5, m5, d5, by go_num, by rw [HLB.out]; rfl, by omega, EN.out, HZ1.out, HZ2.out⟩
       | false =>
         go_wp2_with fail
         refine (fits_c t5 B5 m5 d5 _).mono ?_
         rintro e w8 ⟨rfl, hb⟩
         replace EN := Lib.hid (EN.out.next hb)
         clear hb y0 y1
         generalize decide (m5 ≤ 4096) = fb at HLB ⊢
         go_wp2
         go_roundw
         case measure => simp [intOf]; omega
         case rel => exact ⟨j + 1, t3, B3, m3, d3, t5, B5, m5, d5, by go_num, by rw [HLB.out]; rfl, by omega, EN.out, HZ1.out, HZ2.out⟩
  · have t1 : decide ((j : Int) < (n : Int)) = false := decide_eq_false (by omega)
    have t1n : decide (j < n) = false := decide_eq_false hjn
    obtain rfl : j = ts.length := by rw [HL.out.1]; omega
    have y0 := E.out.o.nv.r0
    have y1 := E.out.o.nv.r1
    have r0 := E.out.rs.r0
    have r1 := E.out.rs.r1
    have f0 := E.out.rs.f0
    have f1 := E.out.rs.f1
    go_wp2
    have Q := E.out.rs.put tO BO mO dO
    have q0 := Q.r0
    have q1 := Q.r1
    refine bodyPost_ret (v := .tuple #[.agg #[.bool tO, .slice BO mO dO], .bool (longB ts ns ts.length)]) (by simp [results, Tryz.results25, go_sem, q0, q1]) rfl ?_
    exact ⟨tO, BO, mO, dO, rfl, E.out.o.is.store r0 r1 _ _, HZ.out.1.le (by have := HBD.out.2.2; omega), below_store E.out.low (by have := HG.out; omega) _ _⟩
end Go.Proofs.YteabokkofoomkaaGreat

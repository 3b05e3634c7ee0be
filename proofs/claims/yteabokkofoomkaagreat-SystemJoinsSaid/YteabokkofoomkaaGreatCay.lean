import Derived.Test.YteabokkofoomkaaGreatCax
set_option maxRecDepth 100000
namespace Go.Proofs.YteabokkofoomkaaGreat
open Go.RowKit Go.Shelf Go.Deep
def nmOf (z : Int) : Nmr := ⟨decide (z < 0), words z.natAbs⟩
def ownOf (vs : List Int) (ns : List Nmr) : List Nmr := vs.map (fun v => nmAt ns v.toNat)
def valsZ (ps : List Ply) (os : List Nmr) : List Int := ps.map (fun p => pVal p.ts os)
theorem Stp.low {b Bd : Nat} {w W W' : World} (h : Stp b w W) (hb : b < Bd) (hw : w.heap.size ≤ Bd) (k : Below Bd W W') : Stp b w W' := by
 have hk := k.block b hb
 exact ⟨⟨k.os.trans h.grown.os, k.tape.trans h.grown.tape, k.output.trans h.grown.output, Nat.le_trans h.size k.size, fun i hi hne => (k.block i (Nat.lt_of_lt_of_le hi hw)).trans (h.grown.block i hi hne)⟩, fun o ho => (World.cell?_of_block hk).trans (h.own o ho), fun o => (World.frozen?_of_block hk).trans (h.frz o)⟩
theorem Cc.low {b Bd : Nat} {W W' : World} {k : Int} (h : Cc W b k) (hb : b < Bd) (q : Below Bd W W') : Cc W' b k := by
 have hk := q.block b hb
 exact ⟨Nat.lt_of_lt_of_le h.lt q.size, (World.cell?_of_block hk).trans h.c0, (World.frozen?_of_block hk).trans h.f0⟩
theorem BxL.low {W W' : World} {g Bd : Nat} {kind : Int} {B : Option Addr} {m d : Nat} {C : Option Addr} {p q : Nat} (h : BxL W g kind B m d C p q) (hg : g < Bd) (hb : Below Bd W W') : BxL W' g kind B m d C p q := by
 have hk := hb.block g hg
 exact ⟨Nat.lt_of_lt_of_le h.lt hb.size, (World.cell?_of_block hk).trans h.c0, (World.cell?_of_block hk).trans h.c1, (World.cell?_of_block hk).trans h.c2⟩
theorem BxL.stp {W W' : World} {g b : Nat} {kind : Int} {B : Option Addr} {m d : Nat} {C : Option Addr} {p q : Nat} (h : BxL W g kind B m d C p q) (hne : g ≠ b) (hs : Stp b W W') : BxL W' g kind B m d C p q :=
 ⟨Nat.lt_of_lt_of_le h.lt hs.size, (hs.cell (p := ⟨g, 0, none⟩) h.lt hne).trans h.c0, (hs.cell (p := ⟨g, 1, none⟩) h.lt hne).trans h.c1, (hs.cell (p := ⟨g, 2, none⟩) h.lt hne).trans h.c2⟩
structure VL (w0 w W : World) (b g : Nat) (k : Int) (kind : Int) (B : Option Addr) (m d : Nat) (C : Option Addr) (p q : Nat) : Prop where
 low : Below w0.heap.size w0 W
 stp : Stp b w W
 cc : Cc W b k
 bx : BxL W g kind B m d C p q
section
variable {w0 w W W' : World} {b g : Nat} {k : Int} {kind : Int} {B : Option Addr} {m d : Nat} {C : Option Addr} {p q : Nat}
theorem VL.next (h : VL w0 w W b g k kind B m d C p q) (hb : Below W.heap.size W W') : VL w0 w W' b g k kind B m d C p q :=
 ⟨h.low.trans (hb.mono h.low.size), h.stp.trans (Stp.of_below h.cc.lt hb), h.cc.below hb, h.bx.next hb⟩
theorem VL.under (h : VL w0 w W b g k kind B m d C p q) {Bd : Nat} (h0 : w0.heap.size ≤ Bd) (hw : w.heap.size ≤ Bd) (hbb : b < Bd) (hg : g < Bd) (hb : Below Bd W W') : VL w0 w W' b g k kind B m d C p q :=
 ⟨h.low.trans (hb.mono h0), h.stp.low hbb hw hb, h.cc.low hbb hb, h.bx.low hg hb⟩
theorem VL.put (h : VL w0 w W b g k kind B m d C p q) {k' : Int} (h0 : w0.heap.size ≤ b) (hne : g ≠ b) (hs : Stp b W W') (hc : Cc W' b k') : VL w0 w W' b g k' kind B m d C p q :=
 ⟨h.low.trans (hs.below h.low.size h0), h.stp.trans hs, hc, h.bx.stp hne hs⟩
end
theorem ownOf_len (vs : List Int) (ns : List Nmr) : (ownOf vs ns).length = vs.length := List.length_map ..
theorem ownOf_at {vs : List Int} {ns : List Nmr} {k : Nat} (h : k < vs.length) : nmAt (ownOf vs ns) k = nmAt ns (vs.getD k 0).toNat := by
 unfold ownOf
 rw [nmAt]
 simp [List.getD_eq_getElem?_getD, h]
theorem take_nm {l : List Nmr} {k : Nat} (h : k < l.length) : l.take k ++ [nmAt l k] = l.take (k + 1) := by
 rw [List.take_add_one]
 simp [nmAt, List.getD_eq_getElem?_getD, List.getElem?_eq_getElem h]
theorem rdN_stp {b : Nat} {k : Int} {w w' : World} {A : Option Addr} {n : Nat} {ns : List Nmr} (h : RdN w A n ns) (hc : Cc w b k) (hs : Stp b w w') : RdN w' A n ns := by
 refine ⟨h.len, fun h0 => ?_⟩
 obtain ⟨bn, o, e, hlt, hcell⟩ := h.at_ h0
 refine ⟨bn, o, e, Nat.lt_of_lt_of_le hlt hs.size, fun i hi => ?_⟩
 obtain ⟨A1, n1, c1, hN⟩ := hcell i hi
 have key : ∀ (q : Nat) (v : Value), (∀ k z, v ≠ .int k z) → w.cell? ⟨bn, q, none⟩ = some v → w'.cell? ⟨bn, q, none⟩ = some v := by
  intro q v hv hq
  by_cases hb : bn = b
  · subst hb
    by_cases ho : q = 0
    · subst ho
      rw [hc.c0] at hq
      injection hq with hq
      exact absurd hq.symm (hv _ _)
    · rw [hs.own _ ho]; exact hq
  · rw [hs.cell (p := ⟨bn, q, none⟩) hlt hb]; exact hq
 exact ⟨A1, n1, c1, key _ _ (fun k z e => by cases e) hN.c0, key _ _ (fun k z e => by cases e) hN.c1, rd_stp hN.rd hc hs, hN.nc, hN.cm⟩
theorem allB_own {vs : List Int} {ns : List Nmr} (h : allB ns = true) (hv : ∀ k, k < vs.length → (vs.getD k 0).toNat < ns.length) : allB (ownOf vs ns) = true := by
 refine decide_eq_true fun i hi => ?_
 rw [ownOf_len] at hi
 rw [ownOf_at hi]
 exact of_decide_eq_true h _ (hv i hi)
theorem vl_vars {kind : Int} {vs : List Int} {ps : List Ply} {V : Int} (h : validLnk ⟨kind, vs, ps⟩ V = true) : ∀ k, k < vs.length → 0 ≤ vs.getD k 0 ∧ vs.getD k 0 < V := by
 simp only [validLnk, headL, risesAll, Bool.and_eq_true, decide_eq_true_eq] at h
 have h4 := h.1.2
 intro i hi
 refine ⟨?_, (h4 i hi).2⟩
 induction i with
 | zero =>
   have := (h4 0 hi).1
   simp only [prevI, if_pos] at this
   omega
 | succ i ih =>
   have h5 := (h4 (i + 1) hi).1
   have h6 := ih (by omega)
   simp only [prevI, Nat.add_eq_zero_iff, Nat.one_ne_zero, and_false, if_false, Nat.add_sub_cancel] at h5
   omega
theorem vl_polys {kind : Int} {vs : List Int} {ps : List Ply} {V : Int} (h : validLnk ⟨kind, vs, ps⟩ V = true) : ∀ k, k < ps.length → (plyAt ps k).V = (vs.length : Int) ∧ validP (plyAt ps k).V (plyAt ps k).ts = true := by
 simp only [validLnk, Bool.and_eq_true, Bool.not_eq_true', anyP, decide_eq_false_iff_not] at h
 intro k hk
 have h2 := h.2
 have h3 : ¬ badPly vs.length (plyAt ps k) = true := fun q => h2 ⟨k, hk, q⟩
 simp only [badPly, Bool.not_eq_true', Bool.not_eq_false, Bool.and_eq_true, decide_eq_true_eq] at h3
 exact h3
theorem vl_lens {kind : Int} {vs : List Int} {ps : List Ply} {V : Int} (h : validLnk ⟨kind, vs, ps⟩ V = true) : 0 ≤ kind ∧ kind < 4 ∧ (ps.length : Int) = polysOf kind ∧ vs.length ≤ 32 := by
 simp only [validLnk, headL, Bool.and_eq_true, decide_eq_true_eq] at h
 exact h.1.1
theorem take_vals {ps : List Ply} {os : List Nmr} {j : Nat} (h : j < ps.length) : (valsZ ps os).take j ++ [pVal (plyAt ps j).ts os] = (valsZ ps os).take (j + 1) := by
 rw [List.take_add_one]
 simp [valsZ, plyAt, List.getD_eq_getElem?_getD, List.getElem?_eq_getElem h]
def ValsP (T b : Nat) (k : Int) (ps : List Ply) (os : List Nmr) (w : World) (e : Ending) (w' : World) : Prop :=
 ∃ A c k' rs, e = .returned (.slice A ps.length c) ∧ Stp b w w' ∧ Cc w' b k' ∧ RdN w' A ps.length rs ∧ St T k' ∧ (k' = 0 → k = 0 ∧ rs = (valsZ ps os).map nmOf ∧ ∀ i, i < ps.length → Sz (pVal (plyAt ps i).ts os) 4096)
theorem keepZ_bad (b : Nat) (k : Int) (t : Bool) (B : Option Addr) (m d : Nat) (e0 : Int) (w : World) (hc : Cc w b k) (hk : k ≠ 0) :
 Calls Tryz.prog 75 #[.pointer (some ⟨b, 0, none⟩), .agg #[.bool t, .slice B m d], .int .i64 e0] w (KeepPostZ b k t B m d e0 w) := by
 have HC := Lib.hid hc
 have c0 := hc.c0
 have f0 := hc.f0
 have hlt := hc.lt
 have q0 : ((w.alloc (.cells #[.bool t, .slice B m d] 58)).alloc (.cells #[.bool false, .slice none 0 0] 58)).cell? ⟨b, 0, none⟩ = some (.int .i64 k) := ((hc.alloc _).alloc _).c0
 have t0 : (k != 0) = true := by simp [hk]
 have t1 : (k == 0) = false := by simp [hk]
 have HK := Lib.hid hk
 clear hc hk
 go_enter Tryz.func75, Tryz.ntmps75
 go_wp2
 refine bodyPost_ret (v := .agg #[.bool false, .slice none 0 0]) (by simp [results, Tryz.results75, go_sem]) rfl ?_
 have h1 := HC.out
 exact ⟨false, none, 0, 0, k, rfl, (Stp.of_below h1.lt (below_alloc _ _)).trans (Stp.of_below (h1.alloc _).lt (below_alloc _ _)), (h1.alloc _).alloc _, fun h => absurd h HK.out, fun _ => rfl, fun h => absurd h HK.out, fun _ => ⟨rfl, rfl, rfl, rfl⟩⟩
theorem keepZ_c (b : Nat) (k : Int) (t : Bool) (B : Option Addr) (m d : Nat) (e0 : Int) (w : World) (hc : Cc w b k) (he : e0 = 0 ∨ e0 = 4) :
 Calls Tryz.prog 75 #[.pointer (some ⟨b, 0, none⟩), .agg #[.bool t, .slice B m d], .int .i64 e0] w (KeepPostZ b k t B m d e0 w) := by
 by_cases hk : k = 0
 · subst hk
   rcases he with rfl | rfl
   · exact KeepZ_zero b t B m d w hc
   · exact KeepZ_four b t B m d w hc
 · exact keepZ_bad b k t B m d e0 w hc hk
set_option maxHeartbeats 8000000 in
theorem values_c (T b : Nat) (k0 : Int) (w0 w : World) (kind : Int) (B : Option Addr) (m d : Nat) (vs : List Int) (C : Option Addr) (p q : Nat) (ps : List Ply) (X : Option Addr) (nx cx : Nat) (ns : List Nmr) (V : Int)
 (hlow : Below w0.heap.size w0 w) (hb0 : w0.heap.size ≤ b) (hcc : Cc w b k0) (hst : St T k0) (hri : RdI w0 B m vs) (hrp : RdP w0 C p ps) (hns : RdN w0 X nx ns) (hv : validLnk ⟨kind, vs, ps⟩ V = true) (hV : (nx : Int) = V) (hval : allB ns = true)
 (hp : p ≤ 1000) (hT : ∀ i, i < ps.length → allV (plyAt ps i).ts (ownOf vs ns) (plyAt ps i).ts.length ≤ T) :
 Calls Tryz.prog 39 #[.pointer (some ⟨b, 0, none⟩), aggL kind B m d C p q, .slice X nx cx] w (ValsP T b k0 ps (ownOf vs ns) w) := by
 have k1 := bel_alloc w (boxL kind B m d C p q)
 have HB := Lib.hid (show w.heap.size < (w.alloc (boxL kind B m d C p q)).heap.size ∧ b < w.heap.size ∧ w0.heap.size ≤ b from ⟨by simp, hcc.lt, hb0⟩)
 have X0 := Lib.hid (show VL w0 w (w.alloc (boxL kind B m d C p q)) b w.heap.size k0 kind B m d C p q from ⟨hlow.trans (k1.mono hlow.size), Stp.of_below hcc.lt k1, hcc.below k1, BxL.new w kind B m d C p q⟩)
 have HI := Lib.hid (And.intro hri (And.intro hrp hns))
 have HL := Lib.hid (And.intro hri.len (And.intro hrp.len hns.len))
 have HV := Lib.hid (And.intro hv (And.intro hV (And.intro hval hT)))
 have HST := Lib.hid hst
 have HP := Lib.hid hp
 clear k1 hlow hb0 hcc hst hri hrp hns hv hV hval hT hp
 go_enter Tryz.func39, Tryz.ntmps39
 go_upto_region 1 with (fail)
 obtain ⟨W0, hW0⟩ : ∃ W0, W0 = w.alloc (boxL kind B m d C p q) := ⟨_, rfl⟩
 rw [← hW0] at HB X0 ⊢
 clear hW0
 obtain ⟨g, hg⟩ : ∃ g, g = w.heap.size := ⟨_, rfl⟩
 have HG := Lib.hid hg
 rw [← hg] at HB X0 ⊢
 clear hg
 have c0 := X0.out.bx.c1
 go_upto_region 2 with (fail)
 go_wp2
 clear c0
 obtain ⟨Bd, hBd⟩ : ∃ x, x = g + 1 := ⟨_, rfl⟩
 have HBd := Lib.hid hBd
 clear hBd
 go_loopw [7, 16] (fun v7 v16 wr => ∃ (k c2 : Nat) (A2 : Option Addr), v16 = .int .i64 (k : Int) ∧ v7 = .slice A2 k c2 ∧ k ≤ m ∧ VL w0 w wr b g k0 kind B m d C p q ∧ OwN wr Bd A2 k c2 ((ownOf vs ns).take k) ∧ Bd ≤ wr.heap.size) (fun _ v _ => m - (intOf v).toNat)
 case atStart => exact ⟨0, 0, none, rfl, rfl, Nat.zero_le _, X0.out, OwN.nil _ _, by have := HB.out.1; have := HBd.out; omega⟩
 case round =>
  obtain ⟨k, c2, A2, rfl, rfl, hk, hx, ho, hsz⟩ := hrel
  clear X0
  have X0 := Lib.hid hx
  have OW := Lib.hid ho
  have SZ := Lib.hid hsz
  have hmm : m ≤ 32 := by
   have h1 := HL.out.1
   have h2 := HV.out.1
   simp only [validLnk, headL, Bool.and_eq_true, decide_eq_true_eq] at h2
   omega
  clear hx ho hsz
  by_cases hkm : k < m
  · have t1 : decide ((k : Int) < (m : Int)) = true := decide_eq_true (by omega)
    have t1n : decide (k < m) = true := decide_eq_true hkm
    have hkI : (k : Int) < (m : Int) := by omega
    have hlow := X0.out.low
    obtain ⟨bE, oE, rfl, _, hcE⟩ := (HI.out.1.below hlow).at_ (by omega)
    have c0 := hcE k hkm
    obtain ⟨j, hj1, hj2⟩ : ∃ j : Nat, vs.getD k 0 = (j : Int) ∧ j < nx := by
     have h1 := HL.out.1
     have h3 := HV.out.2.1
     have h4 := vl_vars HV.out.1 k (by omega)
     exact ⟨(vs.getD k 0).toNat, by omega, by omega⟩
    rw [hj1] at c0
    have HJ := Lib.hid hj1
    obtain ⟨bN, oN, rfl, _, hcN⟩ := (HI.out.2.2.below hlow).at_ (by omega)
    obtain ⟨A1, n1, c1, hN⟩ := hcN j hj2
    have d0 := hN.c0
    have d1 := hN.c1
    obtain ⟨t, ht⟩ : ∃ t, t = nmAt ns j := ⟨_, rfl⟩
    rw [← ht] at d0 hN
    have HT := Lib.hid ht
    have HN := Lib.hid hN
    clear ht hN hcE hcN hlow hj1
    obtain ⟨s, xs⟩ := t
    dsimp only at d0
    go_upto_region 5 with (fail)
    go_wp2_with (at_builtin; refine wpList_app_nm rfl (.tmp 20) (.tmp 25) rfl Bd A2 k c2 ((ownOf vs ns).take k) wr.heap.size 1 s A1 n1 c1 xs rfl rfl (OW.out.keep (bel_alloc _ _)) (by rw [World.size_alloc]; have := SZ.out; omega) (NV.new _ _ _ _ _) (HN.out.rd.below (bel_alloc _ _)) HN.out.nc HN.out.cm (by omega) ?_)
    intro g' c' w9 h1 hb
    have hba := bel_alloc wr (.cells #[.bool s, .slice A1 n1 c1] 58)
    rw [show (ownOf vs ns).take k ++ [⟨s, xs⟩] = (ownOf vs ns).take (k + 1) from by
     rw [← take_nm (by rw [ownOf_len, HL.out.1]; exact hkm), ownOf_at (by rw [HL.out.1]; exact hkm), HJ.out, Int.toNat_natCast, ← HT.out]] at h1
    have OW2 := Lib.hid h1
    have hs1 := HBd.out
    have hs2 := HB.out
    have hs3 := HG.out
    have hs4 := X0.out.low.size
    have X2 := Lib.hid ((X0.out.next hba).under (Bd := Bd) (by omega) (by omega) (by omega) (by omega) hb)
    have SZ2 := Lib.hid (show Bd ≤ w9.heap.size from Nat.le_trans SZ.out (Nat.le_trans hba.size hb.size))
    clear h1 hb hba hs1 hs2 hs3 hs4 X0 OW SZ HN HT HJ d0 d1 c0
    go_wp2
    go_roundw
    case measure => simp [intOf]; omega
    case rel => exact ⟨k + 1, c', some ⟨g', 0, none⟩, by go_num, by go_num, by omega, X2.out, OW2.out, SZ2.out⟩
  · have e : k = m := by omega
    have t1 : decide ((k : Int) < (m : Int)) = false := decide_eq_false (by omega)
    have t1n : decide (k < m) = false := decide_eq_false hkm
    have OWR := Lib.hid (show RdN wr A2 m (ownOf vs ns) from by
     have h := OW.out.rd
     rw [e, List.take_of_length_le (by rw [ownOf_len, HL.out.1]; exact Nat.le_refl _)] at h
     exact h)
    rw [e] at t1 t1n ⊢
    clear OW e hk hkm
    have c0 := X0.out.bx.c2
    go_wp2
    obtain ⟨B2, hB2⟩ : ∃ x, x = wr.heap.size := ⟨_, rfl⟩
    have HB2 := Lib.hid hB2
    have X1 := Lib.hid (show VL w0 wr wr b g k0 kind B m d C p q from ⟨X0.out.low, Stp.refl _ _, X0.out.cc, X0.out.bx⟩)
    clear hB2 c0
    have HS1 := Lib.hid X0.out.stp
    clear X0
    have HOS := Lib.hid (allB_own HV.out.2.2.1 (fun k hk => by
     have h1 := vl_vars HV.out.1 k hk
     have h2 := HV.out.2.1
     have h3 := HL.out.2.2
     omega))
    have hcl := X1.out.cc
    have OWR1 := Lib.hid (And.intro OWR.out hcl)
    clear OWR hcl
    generalize wr = W1 at X1 OWR1 SZ HS1 HB2 ⊢
    go_loopw [10, 31] (fun v10 v31 wq => ∃ (j c3 : Nat) (A3 : Option Addr) (k' : Int) (rs : List Nmr), v31 = .int .i64 (j : Int) ∧ v10 = .slice A3 j c3 ∧ j ≤ p ∧ VL w0 W1 wq b g k' kind B m d C p q ∧ OwN wq B2 A3 j c3 rs ∧ B2 ≤ wq.heap.size ∧ St T k' ∧ (k' = 0 → k0 = 0 ∧ rs = ((valsZ ps (ownOf vs ns)).take j).map nmOf ∧ ∀ i, i < j → Sz (pVal (plyAt ps i).ts (ownOf vs ns)) 4096)) (fun _ v _ => p - (intOf v).toNat)
    case atStart => exact ⟨0, 0, none, k0, [], rfl, rfl, Nat.zero_le _, X1.out, OwN.nil _ _, by rw [HB2.out]; exact Nat.le_refl _, HST.out, fun h => ⟨h, rfl, fun i hi => absurd hi (by omega)⟩⟩
    case round =>
     obtain ⟨j, c3, A3, k', rs, rfl, rfl, hj, hx, ho, hsz, hst, hz⟩ := hrel
     have hpp := HP.out
     have X0 := Lib.hid hx
     have OW := Lib.hid ho
     have SZ2 := Lib.hid hsz
     have ST2 := Lib.hid hst
     have HZ := Lib.hid hz
     clear hx ho hsz hst hz
     by_cases hjp : j < p
     · have t1 : decide ((j : Int) < (p : Int)) = true := decide_eq_true (by omega)
       have t1n : decide (j < p) = true := decide_eq_true hjp
       have hjI : (j : Int) < (p : Int) := by omega
       obtain ⟨bP, oP, rfl, _, hcP⟩ := (HI.out.2.1.below X0.out.low).at_ (by omega)
       obtain ⟨A4, n4, c4, hP⟩ := hcP j hjp
       obtain ⟨pl, hpl⟩ : ∃ x, x = plyAt ps j := ⟨_, rfl⟩
       have HPL := Lib.hid hpl
       rw [← hpl] at hP
       clear hpl hcP
       obtain ⟨V', ts⟩ := pl
       have d0 := hP.c0
       have d1 := hP.c1
       dsimp only at d0
       have HPI := Lib.hid hP
       clear hP
       go_upto_region 11 with (fail)
       have hba := bel_alloc wr (boxP V' A4 n4 c4)
       have XP := Lib.hid (BxP.new wr V' A4 n4 c4)
       have X2 := Lib.hid (X0.out.next hba)
       have OW2 := Lib.hid (OW.out.keep hba)
       have SZ3 := Lib.hid (show B2 ≤ (wr.alloc (boxP V' A4 n4 c4)).heap.size from Nat.le_trans SZ2.out hba.size)
       have PT := Lib.hid (HPI.out.rt.below hba)
       have HPN := Lib.hid (And.intro HPI.out.nc HPI.out.cm)
       clear X0 OW SZ2 HPI hba d0 d1
       generalize wr.alloc (boxP V' A4 n4 c4) = W2 at XP X2 OW2 SZ3 PT ⊢
       generalize wr.heap.size = gq at XP ⊢
       have d0 := XP.out.c0
       have d1 := XP.out.c1
       have hV1 := vl_polys HV.out.1 j (by have := HL.out.2.1; omega)
       rw [← HPL.out] at hV1
       have HV1 := Lib.hid hV1
       have hT1 := HV.out.2.2.2 j (by have := HL.out.2.1; omega)
       rw [← HPL.out] at hT1
       have HT1 := Lib.hid hT1
       have RO := Lib.hid (rdN_stp OWR1.out.1 OWR1.out.2 X2.out.stp)
       clear hV1 hT1
       go_wp2_with fail
       refine (polyEval_c V' A4 n4 c4 ts A2 m c2 (ownOf vs ns) _ PT.out RO.out (by omega)).mono ?_
       rintro e W3 hE
       have hE2 := hE.val (by rw [HOS.out, HV1.out.2]; rfl) (by rw [ownOf_len]; exact HV1.out.1.symm)
       clear hE
       obtain ⟨t', B', m', d', e', rfl, hE0, hEs, hEz, hb⟩ := hE2
       have X3 := Lib.hid (X2.out.next hb)
       have OW3 := Lib.hid (OW2.out.keep hb)
       have SZ4 := Lib.hid (Nat.le_trans SZ3.out hb.size)
       have HE0 := Lib.hid (And.intro hE0 (And.intro hEs hEz))
       clear hb hE0 hEs hEz XP X2 OW2 SZ3 PT d0 d1 RO
       have he04 : e' = 0 ∨ e' = 4 := HE0.out.2.1.elim .inl (fun h => .inr h.1)
       go_wp2_with fail
       refine (keepZ_c b k' t' B' m' d' e' _ X3.out.cc he04).mono ?_
       rintro e W4 ⟨t5, B5, m5, d5, k5, rfl, hs, hc, hk0, hkn, hkz, hkq⟩
       have hbg := HB.out
       have X4 := Lib.hid (X3.out.put (by omega) (by omega) hs hc)
       have hb2 : b < B2 := by have h1 := HB2.out; have h2 := HS1.out.size; have h3 := HG.out; omega
       have OW4 := Lib.hid (OW3.out.stp hb2 X3.out.cc hs)
       have SZ5 := Lib.hid (Nat.le_trans SZ4.out hs.size)
       obtain ⟨xs5, hx5⟩ : ∃ xs5, Rd W4 B5 m5 xs5 ∧ m5 ≤ d5 ∧ d5 ≤ 9223372036854775807 ∧ (k5 = 0 → k' = 0 ∧ (⟨t5, xs5⟩ : Nmr) = nmOf (pVal ts (ownOf vs ns)) ∧ Sz (pVal ts (ownOf vs ns)) 4096) := by
        by_cases h5 : k5 = 0
        · obtain ⟨a1, a2, rfl, rfl, rfl, rfl⟩ := hk0 h5
          have hI := (HE0.out.1 a2).stp X3.out.cc hs
          obtain ⟨i1, i2, i3, i4, i5⟩ := hI.is
          exact ⟨_, i3, i4, i5, fun _ => ⟨a1, by rw [i1]; rfl, hI.sz⟩⟩
        · obtain ⟨rfl, rfl, rfl, rfl⟩ := hkq h5
          exact ⟨[], ⟨rfl, small_nil, fun h => absurd h (by omega)⟩, Nat.le_refl _, by omega, fun h => absurd h h5⟩
       have HX5 := Lib.hid hx5
       have HK5 := Lib.hid (show St T k5 from by
        by_cases h5 : k' = 0
        · rw [hkz h5]; exact HE0.out.2.1.le HT1.out
        · rw [hkn h5]; exact ST2.out)
       clear hs hc hk0 hkn hkz hkq hx5 X3 OW3 SZ4 HE0 hbg hb2 he04
       go_wp2_with (at_builtin; refine wpList_app_nm rfl (.tmp 35) (.tmp 43) rfl B2 A3 j c3 rs W4.heap.size 1 t5 B5 m5 d5 xs5 rfl rfl (OW4.out.keep (bel_alloc _ _)) (by rw [World.size_alloc]; have := SZ5.out; omega) (NV.new _ _ _ _ _) (HX5.out.1.below (bel_alloc _ _)) HX5.out.2.1 HX5.out.2.2.1 (by omega) ?_)
       intro g' c' w9 h1 hb
       have hba := bel_alloc W4 (.cells #[.bool t5, .slice B5 m5 d5] 58)
       have OW5 := Lib.hid h1
       have hs1 := HB2.out
       have hs2 := HB.out
       have hs3 := HG.out
       have hs4 := HS1.out.size
       have hs5 := X1.out.bx.lt
       have X5 := Lib.hid ((X4.out.next hba).under (Bd := B2) (by omega) (by omega) (by omega) (by omega) hb)
       have SZ6 := Lib.hid (show B2 ≤ w9.heap.size from Nat.le_trans SZ5.out (Nat.le_trans hba.size hb.size))
       have HZ6 := Lib.hid (show k5 = 0 → k0 = 0 ∧ rs ++ [⟨t5, xs5⟩] = ((valsZ ps (ownOf vs ns)).take (j + 1)).map nmOf ∧ ∀ i, i < j + 1 → Sz (pVal (plyAt ps i).ts (ownOf vs ns)) 4096 from fun h5 => by
        obtain ⟨a1, a2, a3⟩ := HX5.out.2.2.2 h5
        obtain ⟨z1, z2, z3⟩ := HZ.out a1
        have hpl := HPL.out
        refine ⟨z1, ?_, fun i hi => ?_⟩
        · rw [← take_vals (by have := HL.out.2.1; omega), List.map_append, ← z2, a2, ← hpl]
          rfl
        · by_cases e : i = j
          · rw [e, ← hpl]; exact a3
          · exact z3 i (by omega))
       clear h1 hb hba hs1 hs2 hs3 hs4 hs5 X4 OW4 SZ5 HX5 HZ ST2 HPL HV1 HT1 HPN
       go_wp2
       go_roundw
       case measure => simp [intOf]; omega
       case rel => exact ⟨j + 1, c', some ⟨g', 0, none⟩, k5, _, by go_num, by go_num, by omega, X5.out, OW5.out, SZ6.out, HK5.out, HZ6.out⟩
     · have e : j = p := by omega
       have t1 : decide ((j : Int) < (p : Int)) = false := decide_eq_false (by omega)
       have t1n : decide (j < p) = false := decide_eq_false hjp
       have HR := Lib.hid (show ValsP T b k0 ps (ownOf vs ns) w (.returned (.slice A3 j c3)) wr from by
        have hl := HL.out.2.1
        refine ⟨A3, c3, k', rs, by rw [hl, e], HS1.out.trans X0.out.stp, X0.out.cc, by rw [hl, ← e]; exact OW.out.rd, ST2.out, fun h => ?_⟩
        obtain ⟨z1, z2, z3⟩ := HZ.out h
        refine ⟨z1, ?_, fun i hi => z3 i (by omega)⟩
        rw [z2, List.take_of_length_le (by unfold valsZ; rw [List.length_map]; omega)])
       go_wp2
       go_ret
       exact HR.out
structure RL (w W : World) (g : Nat) (kind : Int) (B : Option Addr) (m d : Nat) (C : Option Addr) (p q : Nat) : Prop where
 low : Below w.heap.size w W
 bx : BxL W g kind B m d C p q
section
variable {w W W' : World} {g : Nat} {kind : Int} {B : Option Addr} {m d : Nat} {C : Option Addr} {p q : Nat}
theorem RL.next (h : RL w W g kind B m d C p q) (hb : Below W.heap.size W W') : RL w W' g kind B m d C p q :=
 ⟨h.low.trans (hb.mono h.low.size), h.bx.next hb⟩
theorem RL.under (h : RL w W g kind B m d C p q) {Bd : Nat} (hw : w.heap.size ≤ Bd) (hg : g < Bd) (hb : Below Bd W W') : RL w W' g kind B m d C p q :=
 ⟨h.low.trans (hb.mono hw), h.bx.low hg hb⟩
end
theorem infoT : (Tryz.prog.info? 70).map (fun i => (i.zero, i.size, i.bytes)) = some (some (.agg #[.bool false, .slice none 0 0, .slice none 0 0]), 3, 56) := by kernel_rfl
structure RawT where
 s : Bool
 A : Option Addr
 n : Nat
 c : Nat
 B : Option Addr
 m : Nat
 d : Nat
def rawTAt (rs : List RawT) (k : Nat) : RawT := rs.getD k ⟨false, none, 0, 0, none, 0, 0⟩
def flatT : List RawT → List Value
 | [] => []
 | x :: t => .bool x.s :: .slice x.A x.n x.c :: .slice x.B x.m x.d :: flatT t
theorem flatT_app : ∀ (cs : List RawT) (x : RawT), flatT (cs ++ [x]) = flatT cs ++ [.bool x.s, .slice x.A x.n x.c, .slice x.B x.m x.d]
 | [], x => rfl
 | y :: t, x => by simp only [List.cons_append, flatT, flatT_app t x]
theorem flatT_at : ∀ (cs : List RawT) (k : Nat), k < cs.length → (flatT cs)[k * 3]? = some (.bool (rawTAt cs k).s) ∧ (flatT cs)[k * 3 + 1]? = some (.slice (rawTAt cs k).A (rawTAt cs k).n (rawTAt cs k).c) ∧ (flatT cs)[k * 3 + 2]? = some (.slice (rawTAt cs k).B (rawTAt cs k).m (rawTAt cs k).d)
 | x :: t, 0, _ => ⟨rfl, rfl, rfl⟩
 | x :: t, k + 1, h => by
   have h2 := flatT_at t k (by simpa using h)
   rw [show (k + 1) * 3 = k * 3 + 3 from by omega]
   exact h2
structure TrR (W : World) (r : RawT) (t : Trm) : Prop where
 s : r.s = t.s
 rd : Rd W r.A r.n t.xs
 nc : r.n ≤ r.c
 cm : r.c ≤ 9223372036854775807
 ri : RdI W r.B r.m t.es
 md : r.m ≤ r.d
 dm : r.d ≤ 9223372036854775807
theorem rdI_grown {w w' : World} {v : Value} (hg : w.grownBy w' v.ownBlock) (hk : Kind w noInt v) {base n : Nat} {e : TypeId} {size : Nat} {xs : List Value} (hown : w.ownsRow base e size v n xs) {A : Option Addr} {m : Nat} {zs : List Int} (h : RdI w A m zs) : RdI w' A m zs := by
 refine ⟨h.len, fun hp => ?_⟩
 obtain ⟨b, o, ea, hlt, hcell⟩ := h.at_ hp
 refine ⟨b, o, ea, Nat.lt_of_lt_of_le hlt hg.size, fun i hi => ?_⟩
 have hne : some b ≠ v.ownBlock := by
  intro hb
  rcases hown.2 with ⟨e1, _⟩ | ⟨g, cap, cur, e1, _, hh, _⟩
  · rw [e1] at hb; cases hb
  · rw [e1] at hb
    injection hb with hb
    change b = g at hb
    subst hb
    have h0 := hcell 0 hp
    rw [cell_of_row w b (o + 0) _ _ _ hh] at h0
    have h1 := hk b _ _ cur e e1 hh _ (by rw [Array.mem_toList_iff]; exact Array.mem_of_getElem? h0)
    exact h1 _ _ rfl
 exact (World.cell?_of_block (hg.block b hlt hne)).trans (hcell i hi)
structure OwT (W : World) (B : Nat) (A : Option Addr) (j c : Nat) (ts : List Trm) : Prop where
 len : ts.length = j
 kind : Kind W noInt (.slice A j c)
 ex : ∃ rs : List RawT, W.ownsRow B 70 3 (.slice A j c) j (flatT rs) ∧ rs.length = j ∧ ∀ k, k < j → TrR W (rawTAt rs k) (trmAt ts k)
theorem OwT.nil (W : World) (B : Nat) : OwT W B none 0 0 [] :=
 ⟨rfl, (fun g n cap cur e hv => by cases hv), [], World.ownsRow_nil W B _ 3, rfl, fun k hk => absurd hk (by omega)⟩
theorem OwT.cap {W : World} {B : Nat} {A : Option Addr} {j c : Nat} {cs : List Trm} (h : OwT W B A j c cs) : j ≤ c ∧ c ≤ 9223372036854775807 ∧ ∀ a, A = some a → B ≤ a.block ∧ a.block < W.heap.size := by
 obtain ⟨rs, hown, _⟩ := h.ex
 rcases hown.2 with ⟨e, e2⟩ | ⟨g, cap, cur, e, h1, hg, h2, h3, _⟩
 · injection e with e1 e3 e4
   subst e1 e4 e2
   exact ⟨Nat.le_refl _, by omega, fun a h => by cases h⟩
 · injection e with e1 e3 e4
   subst e1 e4
   refine ⟨h2, by simpa [maxLen] using h3, fun a h => ?_⟩
   injection h with h
   subst h
   refine ⟨h1, ?_⟩
   rcases Nat.lt_or_ge g W.heap.size with h1 | h1
   · exact h1
   · rw [Array.getElem?_eq_none h1] at hg; cases hg
theorem OwT.keep {W W' : World} {B : Nat} {A : Option Addr} {j c : Nat} {cs : List Trm} (h : OwT W B A j c cs) (hb : Below W.heap.size W W') : OwT W' B A j c cs := by
 have hc := h.cap.2.2
 obtain ⟨rs, hown, hl, hr⟩ := h.ex
 refine ⟨h.len, h.kind.keep fun a ha => hb.block _ (hc a ha).2, rs, ?_, hl, fun k hk => ⟨(hr k hk).s, (hr k hk).rd.below hb, (hr k hk).nc, (hr k hk).cm, (hr k hk).ri.below hb, (hr k hk).md, (hr k hk).dm⟩⟩
 refine hown.kept (row := none) ⟨hb.os, hb.tape, hb.output, hb.size, fun k hk _ => hb.block k hk⟩ ?_
 rcases hv : (Value.slice A j c).ownBlock with _ | b
 · exact .inl rfl
 · exact .inr (by simp)
theorem OwT.rd {W : World} {B : Nat} {A : Option Addr} {j c : Nat} {cs : List Trm} (h : OwT W B A j c cs) : RdT W A j cs := by
 refine ⟨h.len, fun h0 => ?_⟩
 have hlt := h.cap.2.2
 obtain ⟨rs, hown, hl, hr⟩ := h.ex
 rcases hown.2 with ⟨_, e2⟩ | ⟨g, cap, cur, e, _, hg, _⟩
 · omega
 · injection e with e1 e3 e4
   subst e1 e4
   have hc := hown.cells (g := g) rfl
   refine ⟨g, 0, rfl, (hlt _ rfl).2, fun k hk => ?_⟩
   obtain ⟨a0, a1, a2⟩ := flatT_at rs k (by omega)
   have z : ∀ q : Nat, (⟨g, 0, none⟩ : Addr).add q = ⟨g, q, none⟩ := fun q => by
    rcases Nat.eq_zero_or_pos q with rfl | hq
    · rfl
    · unfold Addr.add; simp; omega
   simp only [Nat.zero_add]
   have r := hr k hk
   refine ⟨(rawTAt rs k).A, (rawTAt rs k).n, (rawTAt rs k).c, (rawTAt rs k).B, (rawTAt rs k).m, (rawTAt rs k).d, ?_, ?_, ?_, r.rd, r.nc, r.cm, r.ri, r.md, r.dm⟩
   · rw [← z, ← r.s]; exact hc _ _ a0
   · rw [← z]; exact hc _ _ a1
   · rw [← z]; exact hc _ _ a2
theorem rawTAt_app (rs : List RawT) (x : RawT) (k : Nat) : rawTAt (rs ++ [x]) k = if k < rs.length then rawTAt rs k else if k = rs.length then x else rawTAt [] 0 := by
 unfold rawTAt
 simp only [List.getD_eq_getElem?_getD, List.getElem?_append]
 split
 · rfl
 · split
   · subst_vars; simp
   · rw [List.getElem?_eq_none (by simp; omega)]; rfl
theorem trmAt_app (ns : List Trm) (x : Trm) (k : Nat) : trmAt (ns ++ [x]) k = if k < ns.length then trmAt ns k else if k = ns.length then x else trmAt [] 0 := by
 unfold trmAt
 simp only [List.getD_eq_getElem?_getD, List.getElem?_append]
 split
 · rfl
 · split
   · subst_vars; simp
   · rw [List.getElem?_eq_none (by simp; omega)]; rfl
structure TB (W : World) (g : Nat) (t : Trm) (A : Option Addr) (n c : Nat) (B : Option Addr) (m d : Nat) : Prop where
 bx : BxT W g t.s A n c B m d
 rd : Rd W A n t.xs
 nc : n ≤ c
 cm : c ≤ 9223372036854775807
 ri : RdI W B m t.es
 md : m ≤ d
 dm : d ≤ 9223372036854775807
theorem TB.next {W W' : World} {g : Nat} {t : Trm} {A : Option Addr} {n c : Nat} {B : Option Addr} {m d : Nat} (h : TB W g t A n c B m d) (hb : Below W.heap.size W W') : TB W' g t A n c B m d :=
 ⟨h.bx.next hb, h.rd.below hb, h.nc, h.cm, h.ri.below hb, h.md, h.dm⟩
theorem run_app_tm (w : World) (ty : TypeId) (Bs : Nat) (L : Option Addr) (j cL : Nat) (ts : List Trm) (hown : OwT w Bs L j cL ts) (hB : Bs ≤ w.heap.size) (g q : Nat) {t : Trm} {A : Option Addr} {n c : Nat} {B : Option Addr} {m d : Nat} (hx : TB w g t A n c B m d) (hj : j ≤ 1000000) :
 ∃ g' c' w', (Builtin.append_ #[43, 43] ty #[.slice L j cL, .slice (some ⟨g, 0, none⟩) 1 q]).run Tryz.prog w = .ok (.slice (some ⟨g', 0, none⟩) (j + 1) c') w' ∧ OwT w' Bs (some ⟨g', 0, none⟩) (j + 1) c' (ts ++ [t]) ∧ Below Bs w w' := by
 obtain ⟨i, hi, hz, hs, hb⟩ := info_parts infoT
 have hBg := hown.cap.2.2
 obtain ⟨rs, ho, hl, hr⟩ := hown.ex
 obtain ⟨v', w', hrun, hown', hgr, hat, hk'⟩ := run_append_kind (P := Tryz.prog) (w := w) Bs 43 ty 70 i (.agg #[.bool false, .slice none 0 0, .slice none 0 0]) 3 56 Tryz.underlying43 hi hz hs hb rfl (by omega) (.slice L j cL) j (flatT rs) ho ⟨g, 0, none⟩ 1 q [.bool t.s, .slice A n c, .slice B m d] rfl
  (fun j u hu => by
   have ea : (⟨g, 0, none⟩ : Addr).add j = ⟨g, j, none⟩ := by unfold Addr.add; simp; exact Eq.symm
   rw [ea]
   match j, hu with
   | 0, hu => injection hu with hu; subst hu; exact hx.bx.c0
   | 1, hu => injection hu with hu; subst hu; exact hx.bx.c1
   | 2, hu => injection hu with hu; subst hu; exact hx.bx.c2)
  (fun u hu => by simp at hu; rcases hu with rfl | rfl | rfl <;> rfl) (by simp only [maxLen]; omega) (by omega) hB (by omega) noInt hown.kind
  (fun u hu => by simp [Value.cells] at hu; rcases hu with rfl | rfl | rfl <;> intro k z e <;> cases e)
  (fun u hu => by simp at hu; rcases hu with rfl | rfl | rfl <;> intro k z e <;> cases e)
 have hx1 : Rd w' A n t.xs := rd_grown hgr hown.kind ho hx.rd
 have hx2 : RdI w' B m t.es := rdI_grown hgr hown.kind ho hx.ri
 rw [← flatT_app rs ⟨t.s, A, n, c, B, m, d⟩] at hown'
 rcases hown'.2 with ⟨rfl, h1⟩ | ⟨g2, cap, cur, rfl, hg1, hh, hcap, hcap2, hcur, htake⟩
 · omega
 · refine ⟨g2, cap, w', hrun, ⟨by simp [hown.len], hk', rs ++ [⟨t.s, A, n, c, B, m, d⟩], hown', by simp [hl], fun k hk => ?_⟩, ⟨hgr.os, hgr.tape, hgr.output, hgr.size, fun q hq => hgr.block q (by omega) ?_⟩⟩
   · rw [rawTAt_app, trmAt_app, hl, hown.len]
     by_cases h1 : k < j
     · rw [if_pos h1, if_pos h1]
       have r := hr k h1
       exact ⟨r.s, rd_grown hgr hown.kind ho r.rd, r.nc, r.cm, rdI_grown hgr hown.kind ho r.ri, r.md, r.dm⟩
     · have h2 : k = j := by omega
       rw [if_neg h1, if_neg h1, if_pos h2, if_pos h2]
       exact ⟨rfl, hx1, hx.nc, hx.cm, hx2, hx.md, hx.dm⟩
   · intro e
     rcases L with _ | a
     · cases e
     · injection e with e
       have := (hBg a rfl).1
       omega
theorem wpList_app_tm {w : World} {ops : Array Oper} {rest : List Oper} {o : Oper} {a : Act} {Q : Exit → Act → World → Prop} (hgd : o.guard = none) (s y : Operand)
 (ho : o.op = .call { callee := .builtin .append, args := #[s, y], argTypes := #[43, 43] })
 (Bs : Nat) (L : Option Addr) (j cL : Nat) (ts : List Trm) (g q : Nat) {t : Trm} {A : Option Addr} {n c : Nat} {B : Option Addr} {m d : Nat} (hs : a.eval s = .slice L j cL) (hy : a.eval y = .slice (some ⟨g, 0, none⟩) 1 q) (hown : OwT w Bs L j cL ts) (hB : Bs ≤ w.heap.size)
 (hx : TB w g t A n c B m d) (hj : j ≤ 1000000)
 (h : ∀ g' c' w', OwT w' Bs (some ⟨g', 0, none⟩) (j + 1) c' (ts ++ [t]) → Below Bs w w' → wpList Tryz.prog ops Q rest (a.put o.dst (.slice (some ⟨g', 0, none⟩) (j + 1) c')) w') : wpList Tryz.prog ops Q (o :: rest) a w := by
 refine wpList_plain hgd fun K hK => ?_
 obtain ⟨g', c', w', hrun, h1, h2⟩ := run_app_tm w o.type Bs L j cL ts hown hB g q hx hj
 unfold Oper.wp execOp
 simp only [ho, resolve, invoke, builtin, Sem.run_bind, Sem.run_pure, Result.andThen_ok, List.map_toArray, List.map_cons, List.map_nil, hs, hy, hrun]
 exact hK _ _ (h g' c' w' h1 h2)
end Go.Proofs.YteabokkofoomkaaGreat

import Derived.Test.YteabokkofoomkaaGreatCaz
set_option maxRecDepth 100000
namespace Go.Proofs.YteabokkofoomkaaGreat
open Go.RowKit Go.Shelf Go.Deep
def nmOf (z : Int) : Nmr := ⟨decide (z < 0), words z.natAbs⟩
def ownOf (vs : List Int) (ns : List Nmr) : List Nmr := vs.map (fun v => nmAt ns v.toNat)
def valsZ (ps : List Ply) (os : List Nmr) : List Int := ps.map (fun p => pVal p.ts os)
theorem Stp.low {b Bd : Nat} {w W W' : World} (h : Stp b w W) (hb : b < Bd) (hw : w.heap.size ≤ Bd) (k : Below Bd W W') : Stp b w W' := by
 have hk := k.block b hb
 exact ⟨⟨k.os.trans h.grown.os, k.tape.trans h.grown.tape, k.output.trans h.grown.output, Nat.le_trans h.size k.size, fun i hi hne => (k.block i (Nat.lt_of_lt_of_le hi hw)).trans (h.grown.block i hi hne)⟩, fun o ho => (World.cell?_of_block hk).trans (h.own o ho), fun o => (World.frozen?_of_block hk).trans (h.frz o)⟩
theorem Cc.low {b Bd : Nat} {W W' : World} {k : Int} (h : Cc W b k) (hb : b < Bd) (q : Below Bd W W') : Cc W' b k := by
 have hk := q.block b hb
 exact ⟨Nat.lt_of_lt_of_le h.lt q.size, (World.cell?_of_block hk).trans h.c0, (World.frozen?_of_block hk).trans h.f0⟩
theorem BxL.low {W W' : World} {g Bd : Nat} {kind : Int} {B : Option Addr} {m d : Nat} {C : Option Addr} {p q : Nat} (h : BxL W g kind B m d C p q) (hg : g < Bd) (hb : Below Bd W W') : BxL W' g kind B m d C p q := by
 have hk := hb.block g hg
 exact ⟨Nat.lt_of_lt_of_le h.lt hb.size, (World.cell?_of_block hk).trans h.c0, (World.cell?_of_block hk).trans h.c1, (World.cell?_of_block hk).trans h.c2⟩
theorem BxL.stp {W W' : World} {g b : Nat} {kind : Int} {B : Option Addr} {m d : Nat} {C : Option Addr} {p q : Nat} (h : BxL W g kind B m d C p q) (hne : g ≠ b) (hs : Stp b W W') : BxL W' g kind B m d C p q :=
 ⟨Nat.lt_of_lt_of_le h.lt hs.size, (hs.cell (p := ⟨g, 0, none⟩) h.lt hne).trans h.c0, (hs.cell (p := ⟨g, 1, none⟩) h.lt hne).trans h.c1, (hs.cell (p := ⟨g, 2, none⟩) h.lt hne).trans h.c2⟩
structure VL (w0 w W : World) (b g : Nat) (k : Int) (kind : Int) (B : Option Addr) (m d : Nat) (C : Option Addr) (p q : Nat) : Prop where
 low : Below w0.heap.size w0 W
 stp : Stp b w W
 cc : Cc W b k
 bx : BxL W g kind B m d C p q
section
variable {w0 w W W' : World} {b g : Nat} {k : Int} {kind : Int} {B : Option Addr} {m d : Nat} {C : Option Addr} {p q : Nat}
theorem VL.next (h : VL w0 w W b g k kind B m d C p q) (hb : Below W.heap.size W W') : VL w0 w W' b g k kind B m d C p q :=
 ⟨h.low.trans (hb.mono h.low.size), h.stp.trans (Stp.of_below h.cc.lt hb), h.cc.below hb, h.bx.next hb⟩
theorem VL.under (h : VL w0 w W b g k kind B m d C p q) {Bd : Nat} (h0 : w0.heap.size ≤ Bd) (hw : w.heap.size ≤ Bd) (hbb : b < Bd) (hg : g < Bd) (hb : Below Bd W W') : VL w0 w W' b g k kind B m d C p q :=
 ⟨h.low.trans (hb.mono h0), h.stp.low hbb hw hb, h.cc.low hbb hb, h.bx.low hg hb⟩
theorem VL.put (h : VL w0 w W b g k kind B m d C p q) {k' : Int} (h0 : w0.heap.size ≤ b) (hne : g ≠ b) (hs : Stp b W W') (hc : Cc W' b k') : VL w0 w W' b g k' kind B m d C p q :=
 ⟨h.low.trans (hs.below h.low.size h0), h.stp.trans hs, hc, h.bx.stp hne hs⟩
end
theorem ownOf_len (vs : List Int) (ns : List Nmr) : (ownOf vs ns).length = vs.length := List.length_map ..
theorem ownOf_at {vs : List Int} {ns : List Nmr} {k : Nat} (h : k < vs.length) : nmAt (ownOf vs ns) k = nmAt ns (vs.getD k 0).toNat := by
 unfold ownOf
 rw [nmAt]
 simp [List.getD_eq_getElem?_getD, h]
theorem take_nm {l : List Nmr} {k : Nat} (h : k < l.length) : l.take k ++ [nmAt l k] = l.take (k + 1) := by
 rw [List.take_add_one]
 simp [nmAt, List.getD_eq_getElem?_getD, List.getElem?_eq_getElem h]
theorem rdN_stp {b : Nat} {k : Int} {w w' : World} {A : Option Addr} {n : Nat} {ns : List Nmr} (h : RdN w A n ns) (hc : Cc w b k) (hs : Stp b w w') : RdN w' A n ns := by
 refine ⟨h.len, fun h0 => ?_⟩
 obtain ⟨bn, o, e, hlt, hcell⟩ := h.at_ h0
 refine ⟨bn, o, e, Nat.lt_of_lt_of_le hlt hs.size, fun i hi => ?_⟩
 obtain ⟨A1, n1, c1, hN⟩ := hcell i hi
 have key : ∀ (q : Nat) (v : Value), (∀ k z, v ≠ .int k z) → w.cell? ⟨bn, q, none⟩ = some v → w'.cell? ⟨bn, q, none⟩ = some v := by
  intro q v hv hq
  by_cases hb : bn = b
  · subst hb
    by_cases ho : q = 0
    · subst ho
      rw [hc.c0] at hq
      injection hq with hq
      exact absurd hq.symm (hv _ _)
    · rw [hs.own _ ho]; exact hq
  · rw [hs.cell (p := ⟨bn, q, none⟩) hlt hb]; exact hq
 exact ⟨A1, n1, c1, key _ _ (fun k z e => by cases e) hN.c0, key _ _ (fun k z e => by cases e) hN.c1, rd_stp hN.rd hc hs, hN.nc, hN.cm⟩
theorem allB_own {vs : List Int} {ns : List Nmr} (h : allB ns = true) (hv : ∀ k, k < vs.length → (vs.getD k 0).toNat < ns.length) : allB (ownOf vs ns) = true := by
 refine decide_eq_true fun i hi => ?_
 rw [ownOf_len] at hi
 rw [ownOf_at hi]
 exact of_decide_eq_true h _ (hv i hi)
theorem vl_vars {kind : Int} {vs : List Int} {ps : List Ply} {V : Int} (h : validLnk ⟨kind, vs, ps⟩ V = true) : ∀ k, k < vs.length → 0 ≤ vs.getD k 0 ∧ vs.getD k 0 < V := by
 simp only [validLnk, headL, risesAll, Bool.and_eq_true, decide_eq_true_eq] at h
 have h4 := h.1.2
 intro i hi
 refine ⟨?_, (h4 i hi).2⟩
 induction i with
 | zero =>
   have := (h4 0 hi).1
   simp only [prevI, if_pos] at this
   omega
 | succ i ih =>
   have h5 := (h4 (i + 1) hi).1
   have h6 := ih (by omega)
   simp only [prevI, Nat.add_eq_zero_iff, Nat.one_ne_zero, and_false, if_false, Nat.add_sub_cancel] at h5
   omega
theorem vl_polys {kind : Int} {vs : List Int} {ps : List Ply} {V : Int} (h : validLnk ⟨kind, vs, ps⟩ V = true) : ∀ k, k < ps.length → (plyAt ps k).V = (vs.length : Int) ∧ validP (plyAt ps k).V (plyAt ps k).ts = true := by
 simp only [validLnk, Bool.and_eq_true, Bool.not_eq_true', anyP, decide_eq_false_iff_not] at h
 intro k hk
 have h2 := h.2
 have h3 : ¬ badPly vs.length (plyAt ps k) = true := fun q => h2 ⟨k, hk, q⟩
 simp only [badPly, Bool.not_eq_true', Bool.not_eq_false, Bool.and_eq_true, decide_eq_true_eq] at h3
 exact h3
theorem vl_lens {kind : Int} {vs : List Int} {ps : List Ply} {V : Int} (h : validLnk ⟨kind, vs, ps⟩ V = true) : 0 ≤ kind ∧ kind < 4 ∧ (ps.length : Int) = polysOf kind ∧ vs.length ≤ 32 := by
 simp only [validLnk, headL, Bool.and_eq_true, decide_eq_true_eq] at h
 exact h.1.1
theorem take_vals {ps : List Ply} {os : List Nmr} {j : Nat} (h : j < ps.length) : (valsZ ps os).take j ++ [pVal (plyAt ps j).ts os] = (valsZ ps os).take (j + 1) := by
 rw [List.take_add_one]
 simp [valsZ, plyAt, List.getD_eq_getElem?_getD, List.getElem?_eq_getElem h]
def ValsP (T b : Nat) (k : Int) (ps : List Ply) (os : List Nmr) (w : World) (e : Ending) (w' : World) : Prop :=
 ∃ A c k' rs, e = .returned (.slice A ps.length c) ∧ Stp b w w' ∧ Cc w' b k' ∧ RdN w' A ps.length rs ∧ St T k' ∧ (k' = 0 → k = 0 ∧ rs = (valsZ ps os).map nmOf ∧ ∀ i, i < ps.length → Sz (pVal (plyAt ps i).ts os) 4096)
theorem keepZ_bad (b : Nat) (k : Int) (t : Bool) (B : Option Addr) (m d : Nat) (e0 : Int) (w : World) (hc : Cc w b k) (hk : k ≠ 0) :
 Calls Tryz.prog 75 #[.pointer (some ⟨b, 0, none⟩), .agg #[.bool t, .slice B m d], .int .i64 e0] w (KeepPostZ b k t B m d e0 w) := by
 have HC := Lib.hid hc
 have c0 := hc.c0
 have f0 := hc.f0
 have hlt := hc.lt
 have q0 : ((w.alloc (.cells #[.bool t, .slice B m d] 58)).alloc (.cells #[.bool false, .slice none 0 0] 58)).cell? ⟨b, 0, none⟩ = some (.int .i64 k) := ((hc.alloc _).alloc _).c0
 have t0 : (k != 0) = true := by simp [hk]
 have t1 : (k == 0) = false := by simp [hk]
 have HK := Lib.hid hk
 clear hc hk
 go_enter Tryz.func75, Tryz.ntmps75
 go_wp2
 refine bodyPost_ret (v := .agg #[.bool false, .slice none 0 0]) (by simp [results, Tryz.results75, go_sem]) rfl ?_
 have h1 := HC.out
 exact ⟨false, none, 0, 0, k, rfl, (Stp.of_below h1.lt (below_alloc _ _)).trans (Stp.of_below (h1.alloc _).lt (below_alloc _ _)), (h1.alloc _).alloc _, fun h => absurd h HK.out, fun _ => rfl, fun h => absurd h HK.out, fun _ => ⟨rfl, rfl, rfl, rfl⟩⟩
theorem keepZ_c (b : Nat) (k : Int) (t : Bool) (B : Option Addr) (m d : Nat) (e0 : Int) (w : World) (hc : Cc w b k) (he : e0 = 0 ∨ e0 = 4) :
 Calls Tryz.prog 75 #[.pointer (some ⟨b, 0, none⟩), .agg #[.bool t, .slice B m d], .int .i64 e0] w (KeepPostZ b k t B m d e0 w) := by
 by_cases hk : k = 0
 · subst hk
   rcases he with rfl | rfl
   · exact KeepZ_zero b t B m d w hc
   · exact KeepZ_four b t B m d w hc
 · exact keepZ_bad b k t B m d e0 w hc hk
set_option maxHeartbeats 8000000 in
theorem values_c (T b : Nat) (k0 : Int) (w0 w : World) (kind : Int) (B : Option Addr) (m d : Nat) (vs : List Int) (C : Option Addr) (p q : Nat) (ps : List Ply) (X : Option Addr) (nx cx : Nat) (ns : List Nmr) (V : Int)
 (hlow : Below w0.heap.size w0 w) (hb0 : w0.heap.size ≤ b) (hcc : Cc w b k0) (hst : St T k0) (hri : RdI w0 B m vs) (hrp : RdP w0 C p ps) (hns : RdN w0 X nx ns) (hv : validLnk ⟨kind, vs, ps⟩ V = true) (hV : (nx : Int) = V) (hval : allB ns = true)
 (hp : p ≤ 1000) (hT : ∀ i, i < ps.length → allV (plyAt ps i).ts (ownOf vs ns) (plyAt ps i).ts.length ≤ T) :
 Calls Tryz.prog 39 #[.pointer (some ⟨b, 0, none⟩), aggL kind B m d C p q, .slice X nx cx] w (ValsP T b k0 ps (ownOf vs ns) w) := by
 have k1 := bel_alloc w (boxL kind B m d C p q)
 have HB := Lib.hid (show w.heap.size < (w.alloc (boxL kind B m d C p q)).heap.size ∧ b < w.heap.size ∧ w0.heap.size ≤ b from ⟨by simp, hcc.lt, hb0⟩)
 have X0 := Lib.hid (show VL w0 w (w.alloc (boxL kind B m d C p q)) b w.heap.size k0 kind B m d C p q from ⟨hlow.trans (k1.mono hlow.size), Stp.of_below hcc.lt k1, hcc.below k1, BxL.new w kind B m d C p q⟩)
 have HI := Lib.hid (And.intro hri (And.intro hrp hns))
 have HL := Lib.hid (And.intro hri.len (And.intro hrp.len hns.len))
 have HV := Lib.hid (And.intro hv (And.intro hV (And.intro hval hT)))
 have HST := Lib.hid hst
 have HP := Lib.hid hp
 clear k1 hlow hb0 hcc hst hri hrp hns hv hV hval hT hp
 go_enter Tryz.func39, Tryz.ntmps39
 go_upto_region 1 with (fail)
 obtain ⟨W0, hW0⟩ : ∃ W0, W0 = w.alloc (boxL kind B m d C p q) := ⟨_, rfl⟩
 rw [← hW0] at HB X0 ⊢
 clear hW0
 obtain ⟨g, hg⟩ : ∃ g, g = w.heap.size := ⟨_, rfl⟩
 have HG := Lib.hid hg
 rw [← hg] at HB X0 ⊢
 clear hg
 have c0 := X0.out.bx.c1
 go_upto_region 2 with (fail)
 go_wp2
 clear c0
 obtain ⟨Bd, hBd⟩ : ∃ x, x = g + 1 := ⟨_, rfl⟩
 have HBd := Lib.hid hBd
 clear hBd
 go_loopw [7, 16] (fun v7 v16 wr => ∃ (k c2 : Nat) (A2 : Option Addr), v16 = .int .i64 (k : Int) ∧ v7 = .slice A2 k c2 ∧ k ≤ m ∧ VL w0 w wr b g k0 kind B m d C p q ∧ OwN wr Bd A2 k c2 ((ownOf vs ns).take k) ∧ Bd ≤ wr.heap.size) (fun _ v _ => m - (intOf v).toNat)
 case atStart => exact ⟨0, 0, none, rfl, rfl, Nat.zero_le _, X0.out, OwN.nil _ _, by have := HB.out.1; have := HBd.out; omega⟩
 case round =>
  obtain ⟨k, c2, A2, rfl, rfl, hk, hx, ho, hsz⟩ := hrel
  clear X0
  have X0 := Lib.hid hx
  have OW := Lib.hid ho
  have SZ := Lib.hid hsz
  have hmm : m ≤ 32 := by
   have h1 := HL.out.1
   have h2 := HV.out.1
   simp only [validLnk, headL, Bool.and_eq_true, decide_eq_true_eq] at h2
   omega
  clear hx ho hsz
  by_cases hkm : k < m
  · have t1 : decide ((k : Int) < (m : Int)) = true := decide_eq_true (by omega)
    have t1n : decide (k < m) = true := decide_eq_true hkm
    have hkI : (k : Int) < (m : Int) := by omega
    have hlow := X0.out.low
    obtain ⟨bE, oE, rfl, _, hcE⟩ := (HI.out.1.below hlow).at_ (by omega)
    have c0 := hcE k hkm
    obtain ⟨j, hj1, hj2⟩ : ∃ j : Nat, vs.getD k 0 = (j : Int) ∧ j < nx := by
     have h1 := HL.out.1
     have h3 := HV.out.2.1
     have h4 := vl_vars HV.out.1 k (by omega)
     exact ⟨(vs.getD k 0).toNat, by omega, by omega⟩
    rw [hj1] at c0
    have HJ := Lib.hid hj1
    obtain ⟨bN, oN, rfl, _, hcN⟩ := (HI.out.2.2.below hlow).at_ (by omega)
    obtain ⟨A1, n1, c1, hN⟩ := hcN j hj2
    have d0 := hN.c0
    have d1 := hN.c1
    obtain ⟨t, ht⟩ : ∃ t, t = nmAt ns j := ⟨_, rfl⟩
    rw [← ht] at d0 hN
    have HT := Lib.hid ht
    have HN := Lib.hid hN
    clear ht hN hcE hcN hlow hj1
    obtain ⟨s, xs⟩ := t
    dsimp only at d0
    go_upto_region 5 with (fail)
    go_wp2_with (at_builtin; refine wpList_app_nm rfl (.tmp 20) (.tmp 25) rfl Bd A2 k c2 ((ownOf vs ns).take k) wr.heap.size 1 s A1 n1 c1 xs rfl rfl (OW.out.keep (bel_alloc _ _)) (by rw [World.size_alloc]; have := SZ.out; omega) (NV.new _ _ _ _ _) (HN.out.rd.below (bel_alloc _ _)) HN.out.nc HN.out.cm (by omega) ?_)
    intro g' c' w9 h1 hb
    have hba := bel_alloc wr (.cells #[.bool s, .slice A1 n1 c1] 58)
    rw [show (ownOf vs ns).take k ++ [⟨s, xs⟩] = (ownOf vs ns).take (k + 1) from by
     rw [← take_nm (by rw [ownOf_len, HL.out.1]; exact hkm), ownOf_at (by rw [HL.out.1]; exact hkm), HJ.out, Int.toNat_natCast, ← HT.out]] at h1
    have OW2 := Lib.hid h1
    have hs1 := HBd.out
    have hs2 := HB.out
    have hs3 := HG.out
    have hs4 := X0.out.low.size
    have X2 := Lib.hid ((X0.out.next hba).under (Bd := Bd) (by omega) (by omega) (by omega) (by omega) hb)
    have SZ2 := Lib.hid (show Bd ≤ w9.heap.size from Nat.le_trans SZ.out (Nat.le_trans hba.size hb.size))
    clear h1 hb hba hs1 hs2 hs3 hs4 X0 OW SZ HN HT HJ d0 d1 c0
    go_wp2
    go_roundw
    case measure => simp [intOf]; omega
    case rel => exact ⟨k + 1, c', some ⟨g', 0, none⟩, by go_num, by go_num, by omega, X2.out, OW2.out, SZ2.out⟩
  · have e : k = m := by omega
    have t1 : decide ((k : Int) < (m : Int)) = false := decide_eq_false (by omega)
    have t1n : decide (k < m) = false := decide_eq_false hkm
    have OWR := Lib.hid (show RdN wr A2 m (ownOf vs ns) from by
     have h := OW.out.rd
     rw [e, List.take_of_length_le (by rw [ownOf_len, HL.out.1]; exact Nat.le_refl _)] at h
     exact h)
    rw [e] at t1 t1n ⊢
    clear OW e hk hkm
    have c0 := X0.out.bx.c2
    go_wp2
    obtain ⟨B2, hB2⟩ : ∃ x, x = wr.heap.size := ⟨_, rfl⟩
    have HB2 := Lib.hid hB2
    have X1 := Lib.hid (show VL w0 wr wr b g k0 kind B m d C p q from ⟨X0.out.low, Stp.refl _ _, X0.out.cc, X0.out.bx⟩)
    clear hB2 c0
    have HS1 := Lib.hid X0.out.stp
    clear X0
    have HOS := Lib.hid (allB_own HV.out.2.2.1 (fun k hk => by
     have h1 := vl_vars HV.out.1 k hk
     have h2 := HV.out.2.1
     have h3 := HL.out.2.2
     omega))
    have hcl := X1.out.cc
    have OWR1 := Lib.hid (And.intro OWR.out hcl)
    clear OWR hcl
    generalize wr = W1 at X1 OWR1 SZ HS1 HB2 ⊢
    go_loopw [10, 31] (fun v10 v31 wq => ∃ (j c3 : Nat) (A3 : Option Addr) (k' : Int) (rs : List Nmr), v31 = .int .i64 (j : Int) ∧ v10 = .slice A3 j c3 ∧ j ≤ p ∧ VL w0 W1 wq b g k' kind B m d C p q ∧ OwN wq B2 A3 j c3 rs ∧ B2 ≤ wq.heap.size ∧ St T k' ∧ (k' = 0 → k0 = 0 ∧ rs = ((valsZ ps (ownOf vs ns)).take j).map nmOf ∧ ∀ i, i < j → Sz (pVal (plyAt ps i).ts (ownOf vs ns)) 4096)) (fun _ v _ => p - (intOf v).toNat)
    case atStart => exact ⟨0, 0, none, k0, [], rfl, rfl, Nat.zero_le _, X1.out, OwN.nil _ _, by rw [HB2.out]; exact Nat.le_refl _, HST.out, fun h => ⟨h, rfl, fun i hi => absurd hi (by omega)⟩⟩
    case round =>
     obtain ⟨j, c3, A3, k', rs, rfl, rfl, hj, hx, ho, hsz, hst, hz⟩ := hrel
     have hpp := HP.out
     have X0 := Lib.hid hx
     have OW := Lib.hid ho
     have SZ2 := Lib.hid hsz
     have ST2 := Lib.hid hst
     have HZ := Lib.hid hz
     clear hx ho hsz hst hz
     by_cases hjp : j < p
     · have t1 : decide ((j : Int) < (p : Int)) = true := decide_eq_true (by omega)
       have t1n : decide (j < p) = true := decide_eq_true hjp
       have hjI : (j : Int) < (p : Int) := by omega
       obtain ⟨bP, oP, rfl, _, hcP⟩ := (HI.out.2.1.below X0.out.low).at_ (by omega)
       obtain ⟨A4, n4, c4, hP⟩ := hcP j hjp
       obtain ⟨pl, hpl⟩ : ∃ x, x = plyAt ps j := ⟨_, rfl⟩
       have HPL := Lib.hid hpl
       rw [← hpl] at hP
       clear hpl hcP
       obtain ⟨V', ts⟩ := pl
       have d0 := hP.c0
       have d1 := hP.c1
       dsimp only at d0
       have HPI := Lib.hid hP
       clear hP
       go_upto_region 11 with (fail)
       have hba := bel_alloc wr (boxP V' A4 n4 c4)
       have XP := Lib.hid (BxP.new wr V' A4 n4 c4)
       have X2 := Lib.hid (X0.out.next hba)
       have OW2 := Lib.hid (OW.out.keep hba)
       have SZ3 := Lib.hid (show B2 ≤ (wr.alloc (boxP V' A4 n4 c4)).heap.size from Nat.le_trans SZ2.out hba.size)
       have PT := Lib.hid (HPI.out.rt.below hba)
       have HPN := Lib.hid (And.intro HPI.out.nc HPI.out.cm)
       clear X0 OW SZ2 HPI hba d0 d1
       generalize wr.alloc (boxP V' A4 n4 c4) = W2 at XP X2 OW2 SZ3 PT ⊢
       generalize wr.heap.size = gq at XP ⊢
       have d0 := XP.out.c0
       have d1 := XP.out.c1
       have hV1 := vl_polys HV.out.1 j (by have := HL.out.2.1; omega)
       rw [← HPL.out] at hV1
       have HV1 := Lib.hid hV1
       have hT1 := HV.out.2.2.2 j (by have := HL.out.2.1; omega)
       rw [← HPL.out] at hT1
       have HT1 := Lib.hid hT1
       have RO := Lib.hid (rdN_stp OWR1.out.1 OWR1.out.2 X2.out.stp)
       clear hV1 hT1
       go_wp2_with fail
       refine (polyEval_c V' A4 n4 c4 ts A2 m c2 (ownOf vs ns) _ PT.out RO.out (by omega)).mono ?_
       rintro e W3 hE
       have hE2 := hE.val (by rw [HOS.out, HV1.out.2]; rfl) (by rw [ownOf_len]; exact HV1.out.1.symm)
       clear hE
       obtain ⟨t', B', m', d', e', rfl, hE0, hEs, hEz, hb⟩ := hE2
       have X3 := Lib.hid (X2.out.next hb)
       have OW3 := Lib.hid (OW2.out.keep hb)
       have SZ4 := Lib.hid (Nat.le_trans SZ3.out hb.size)
       have HE0 := Lib.hid (And.intro hE0 (And.intro hEs hEz))
       clear hb hE0 hEs hEz XP X2 OW2 SZ3 PT d0 d1 RO
       have he04 : e' = 0 ∨ e' = 4 := HE0.out.2.1.elim .inl (fun h => .inr h.1)
       go_wp2_with fail
       refine (keepZ_c b k' t' B' m' d' e' _ X3.out.cc he04).mono ?_
       rintro e W4 ⟨t5, B5, m5, d5, k5, rfl, hs, hc, hk0, hkn, hkz, hkq⟩
       have hbg := HB.out
       have X4 := Lib.hid (X3.out.put (by omega) (by omega) hs hc)
       have hb2 : b < B2 := by have h1 := HB2.out; have h2 := HS1.out.size; have h3 := HG.out; omega
       have OW4 := Lib.hid (OW3.out.stp hb2 X3.out.cc hs)
       have SZ5 := Lib.hid (Nat.le_trans SZ4.out hs.size)
       obtain ⟨xs5, hx5⟩ : ∃ xs5, Rd W4 B5 m5 xs5 ∧ m5 ≤ d5 ∧ d5 ≤ 9223372036854775807 ∧ (k5 = 0 → k' = 0 ∧ (⟨t5, xs5⟩ : Nmr) = nmOf (pVal ts (ownOf vs ns)) ∧ Sz (pVal ts (ownOf vs ns)) 4096) := by
        by_cases h5 : k5 = 0
        · obtain ⟨a1, a2, rfl, rfl, rfl, rfl⟩ := hk0 h5
          have hI := (HE0.out.1 a2).stp X3.out.cc hs
          obtain ⟨i1, i2, i3, i4, i5⟩ := hI.is
          exact ⟨_, i3, i4, i5, fun _ => ⟨a1, by rw [i1]; rfl, hI.sz⟩⟩
        · obtain ⟨rfl, rfl, rfl, rfl⟩ := hkq h5
          exact ⟨[], ⟨rfl, small_nil, fun h => absurd h (by omega)⟩, Nat.le_refl _, by omega, fun h => absurd h h5⟩
       have HX5 := Lib.hid hx5
       have HK5 := Lib.hid (show St T k5 from by
        by_cases h5 : k' = 0
        · rw [hkz h5]; exact HE0.out.2.1.le HT1.out
        · rw [hkn h5]; exact ST2.out)
       clear hs hc hk0 hkn hkz hkq hx5 X3 OW3 SZ4 HE0 hbg hb2 he04
       go_wp2_with (at_builtin; refine wpList_app_nm rfl (.tmp 35) (.tmp 43) rfl B2 A3 j c3 rs W4.heap.size 1 t5 B5 m5 d5 xs5 rfl rfl (OW4.out.keep (bel_alloc _ _)) (by rw [World.size_alloc]; have := SZ5.out; omega) (NV.new _ _ _ _ _) (HX5.out.1.below (bel_alloc _ _)) HX5.out.2.1 HX5.out.2.2.1 (by omega) ?_)
       intro g' c' w9 h1 hb
       have hba := bel_alloc W4 (.cells #[.bool t5, .slice B5 m5 d5] 58)
       have OW5 := Lib.hid h1
       have hs1 := HB2.out
       have hs2 := HB.out
       have hs3 := HG.out
       have hs4 := HS1.out.size
       have hs5 := X1.out.bx.lt
       have X5 := Lib.hid ((X4.out.next hba).under (Bd := B2) (by omega) (by omega) (by omega) (by omega) hb)
       have SZ6 := Lib.hid (show B2 ≤ w9.heap.size from Nat.le_trans SZ5.out (Nat.le_trans hba.size hb.size))
       have HZ6 := Lib.hid (show k5 = 0 → k0 = 0 ∧ rs ++ [⟨t5, xs5⟩] = ((valsZ ps (ownOf vs ns)).take (j + 1)).map nmOf ∧ ∀ i, i < j + 1 → Sz (pVal (plyAt ps i).ts (ownOf vs ns)) 4096 from fun h5 => by
        obtain ⟨a1, a2, a3⟩ := HX5.out.2.2.2 h5
        obtain ⟨z1, z2, z3⟩ := HZ.out a1
        have hpl := HPL.out
        refine ⟨z1, ?_, fun i hi => ?_⟩
        · rw [← take_vals (by have := HL.out.2.1; omega), List.map_append, ← z2, a2, ← hpl]
          rfl
        · by_cases e : i = j
          · rw [e, ← hpl]; exact a3
          · exact z3 i (by omega))
       clear h1 hb hba hs1 hs2 hs3 hs4 hs5 X4 OW4 SZ5 HX5 HZ ST2 HPL HV1 HT1 HPN
       go_wp2
       go_roundw
       case measure => simp [intOf]; omega
       case rel => exact ⟨j + 1, c', some ⟨g', 0, none⟩, k5, _, by go_num, by go_num, by omega, X5.out, OW5.out, SZ6.out, HK5.out, HZ6.out⟩
     · have e : j = p := by omega
       have t1 : decide ((j : Int) < (p : Int)) = false := decide_eq_false (by omega)
       have t1n : decide (j < p) = false := decide_eq_false hjp
       have HR := Lib.hid (show ValsP T b k0 ps (ownOf vs ns) w (.returned (.slice A3 j c3)) wr from by
        have hl := HL.out.2.1
        refine ⟨A3, c3, k', rs, by rw [hl, e], HS1.out.trans X0.out.stp, X0.out.cc, by rw [hl, ← e]; exact OW.out.rd, ST2.out, fun h => ?_⟩
        obtain ⟨z1, z2, z3⟩ := HZ.out h
        refine ⟨z1, ?_, fun i hi => z3 i (by omega)⟩
        rw [z2, List.take_of_length_le (by unfold valsZ; rw [List.length_map]; omega)])
       go_wp2
       go_ret
       exact HR.out
def okPs (ps : List Ply) (os : List Nmr) : Bool := decide (∀ i, i < ps.length → allV (plyAt ps i).ts os (plyAt ps i).ts.length < pw 4096)
def RValsP (ps : List Ply) (os : List Nmr) (w : World) (e : Ending) (w' : World) : Prop :=
 (okPs ps os = true ∧ ∃ A c, e = .returned (.tuple #[.slice A ps.length c, .bool true]) ∧ RdN w' A ps.length ((valsZ ps os).map nmOf) ∧ Below w.heap.size w w') ∨
 (okPs ps os = false ∧ e = .returned (.tuple #[.slice none 0 0, .bool false]) ∧ Below w.heap.size w w')
structure RL (w W : World) (g : Nat) (kind : Int) (B : Option Addr) (m d : Nat) (C : Option Addr) (p q : Nat) : Prop where
 low : Below w.heap.size w W
 bx : BxL W g kind B m d C p q
section
variable {w W W' : World} {g : Nat} {kind : Int} {B : Option Addr} {m d : Nat} {C : Option Addr} {p q : Nat}
theorem RL.next (h : RL w W g kind B m d C p q) (hb : Below W.heap.size W W') : RL w W' g kind B m d C p q :=
 ⟨h.low.trans (hb.mono h.low.size), h.bx.next hb⟩
theorem RL.under (h : RL w W g kind B m d C p q) {Bd : Nat} (hw : w.heap.size ≤ Bd) (hg : g < Bd) (hb : Below Bd W W') : RL w W' g kind B m d C p q :=
 ⟨h.low.trans (hb.mono hw), h.bx.low hg hb⟩
end
set_option maxHeartbeats 8000000 in
theorem refValues_c (w : World) (kind : Int) (B : Option Addr) (m d : Nat) (vs : List Int) (C : Option Addr) (p q : Nat) (ps : List Ply) (X : Option Addr) (nx cx : Nat) (ns : List Nmr) (V : Int)
 (hri : RdI w B m vs) (hrp : RdP w C p ps) (hns : RdN w X nx ns) (hv : validLnk ⟨kind, vs, ps⟩ V = true) (hV : (nx : Int) = V) (hval : allB ns = true) (hp : p ≤ 1000) :
 Calls Tryz.prog 43 #[aggL kind B m d C p q, .slice X nx cx] w (RValsP ps (ownOf vs ns) w) := by
 have k1 := bel_alloc w (boxL kind B m d C p q)
 have HB := Lib.hid (show w.heap.size < (w.alloc (boxL kind B m d C p q)).heap.size by simp)
 have X0 := Lib.hid (show RL w (w.alloc (boxL kind B m d C p q)) w.heap.size kind B m d C p q from ⟨k1, BxL.new w kind B m d C p q⟩)
 have HI := Lib.hid (And.intro hri (And.intro hrp hns))
 have HL := Lib.hid (And.intro hri.len (And.intro hrp.len hns.len))
 have HV := Lib.hid (And.intro hv (And.intro hV hval))
 have HP := Lib.hid hp
 clear k1 hri hrp hns hv hV hval hp
 go_enter Tryz.func43, Tryz.ntmps43
 go_upto_region 1 with (fail)
 obtain ⟨W0, hW0⟩ : ∃ W0, W0 = w.alloc (boxL kind B m d C p q) := ⟨_, rfl⟩
 rw [← hW0] at HB X0 ⊢
 clear hW0
 obtain ⟨g, hg⟩ : ∃ g, g = w.heap.size := ⟨_, rfl⟩
 have HG := Lib.hid hg
 rw [← hg] at HB X0 ⊢
 clear hg
 go_wp2
 obtain ⟨Bd, hBd⟩ : ∃ x, x = g + 1 := ⟨_, rfl⟩
 have HBd := Lib.hid hBd
 clear hBd
 go_loopw [6, 8] (fun v6 v8 wr => ∃ (k c2 : Nat) (A2 : Option Addr), v8 = .int .i64 (k : Int) ∧ v6 = .slice A2 k c2 ∧ k ≤ m ∧ RL w wr g kind B m d C p q ∧ OwN wr Bd A2 k c2 ((ownOf vs ns).take k) ∧ Bd ≤ wr.heap.size) (fun _ v _ => m - (intOf v).toNat)
 case atStart => exact ⟨0, 0, none, rfl, rfl, Nat.zero_le _, X0.out, OwN.nil _ _, by have := HB.out; have := HBd.out; omega⟩
 case round =>
  obtain ⟨k, c2, A2, rfl, rfl, hk, hx, ho, hsz⟩ := hrel
  clear X0
  have X0 := Lib.hid hx
  have OW := Lib.hid ho
  have SZ := Lib.hid hsz
  have hmm : m ≤ 32 := by
   have h1 := HL.out.1
   have h2 := (vl_lens HV.out.1).2.2.2
   omega
  clear hx ho hsz
  have c1 := X0.out.bx.c1
  by_cases hkm : k < m
  · have t1 : decide ((k : Int) < (m : Int)) = true := decide_eq_true (by omega)
    have t1n : decide (k < m) = true := decide_eq_true hkm
    have hkI : (k : Int) < (m : Int) := by omega
    have hlow := X0.out.low
    obtain ⟨bE, oE, rfl, _, hcE⟩ := (HI.out.1.below hlow).at_ (by omega)
    have c0 := hcE k hkm
    obtain ⟨j, hj1, hj2⟩ : ∃ j : Nat, vs.getD k 0 = (j : Int) ∧ j < nx := by
     have h1 := HL.out.1
     have h3 := HV.out.2.1
     have h4 := vl_vars HV.out.1 k (by omega)
     exact ⟨(vs.getD k 0).toNat, by omega, by omega⟩
    rw [hj1] at c0
    have HJ := Lib.hid hj1
    obtain ⟨bN, oN, rfl, _, hcN⟩ := (HI.out.2.2.below hlow).at_ (by omega)
    obtain ⟨A1, n1, c1', hN⟩ := hcN j hj2
    have d0 := hN.c0
    have d1 := hN.c1
    obtain ⟨t, ht⟩ : ∃ t, t = nmAt ns j := ⟨_, rfl⟩
    rw [← ht] at d0 hN
    have HT := Lib.hid ht
    have HN := Lib.hid hN
    clear ht hN hcE hcN hlow hj1
    obtain ⟨s, xs⟩ := t
    dsimp only at d0
    go_upto_region 5 with (fail)
    go_wp2_with (at_builtin; refine wpList_app_nm rfl (.tmp 19) (.tmp 28) rfl Bd A2 k c2 ((ownOf vs ns).take k) wr.heap.size 1 s A1 n1 c1' xs rfl rfl (OW.out.keep (bel_alloc _ _)) (by rw [World.size_alloc]; have := SZ.out; omega) (NV.new _ _ _ _ _) (HN.out.rd.below (bel_alloc _ _)) HN.out.nc HN.out.cm (by omega) ?_)
    intro g' c' w9 h1 hb
    have hba := bel_alloc wr (.cells #[.bool s, .slice A1 n1 c1'] 58)
    rw [show (ownOf vs ns).take k ++ [⟨s, xs⟩] = (ownOf vs ns).take (k + 1) from by
     rw [← take_nm (by rw [ownOf_len, HL.out.1]; exact hkm), ownOf_at (by rw [HL.out.1]; exact hkm), HJ.out, Int.toNat_natCast, ← HT.out]] at h1
    have OW2 := Lib.hid h1
    have hs1 := HBd.out
    have hs3 := HG.out
    have X2 := Lib.hid ((X0.out.next hba).under (Bd := Bd) (by omega) (by omega) hb)
    have SZ2 := Lib.hid (show Bd ≤ w9.heap.size from Nat.le_trans SZ.out (Nat.le_trans hba.size hb.size))
    clear h1 hb hba hs1 hs3 X0 OW SZ HN HT HJ d0 d1 c0 c1
    go_wp2
    go_roundw
    case measure => simp [intOf]; omega
    case rel => exact ⟨k + 1, c', some ⟨g', 0, none⟩, by go_num, by go_num, by omega, X2.out, OW2.out, SZ2.out⟩
  · have e : k = m := by omega
    have t1 : decide ((k : Int) < (m : Int)) = false := decide_eq_false (by omega)
    have t1n : decide (k < m) = false := decide_eq_false hkm
    have OWR := Lib.hid (show RdN wr A2 m (ownOf vs ns) from by
     have h := OW.out.rd
     rw [e, List.take_of_length_le (by rw [ownOf_len, HL.out.1]; exact Nat.le_refl _)] at h
     exact h)
    rw [e] at t1 t1n ⊢
    clear OW e hk hkm
    go_wp2
    obtain ⟨B2, hB2⟩ : ∃ x, x = wr.heap.size := ⟨_, rfl⟩
    have HB2 := Lib.hid hB2
    have HLW := Lib.hid X0.out.low
    have X1 := Lib.hid X0.out.bx
    clear hB2 c1 X0
    have HOS := Lib.hid (allB_own HV.out.2.2 (fun k hk => by
     have h1 := vl_vars HV.out.1 k hk
     have h2 := HV.out.2.1
     have h3 := HL.out.2.2
     omega))
    generalize wr = W1 at X1 OWR SZ HLW HB2 ⊢
    obtain ⟨NS, hNS⟩ : ∃ x, x = (valsZ ps (ownOf vs ns)).map nmOf := ⟨_, rfl⟩
    have HNL := Lib.hid (show NS.length = ps.length by rw [hNS, List.length_map]; unfold valsZ; rw [List.length_map])
    have HNS := Lib.hid (show ∀ j, j < ps.length → NS.take j ++ [nmOf (pVal (plyAt ps j).ts (ownOf vs ns))] = NS.take (j + 1) from fun j hj => by
     rw [hNS, ← List.map_take, ← List.map_take, ← take_vals hj, List.map_append]
     rfl)
    have HNE := Lib.hid hNS
    clear hNS
    go_loopw [7, 9] (fun v7 v9 wq => ∃ (j c3 : Nat) (A3 : Option Addr), v9 = .int .i64 (j : Int) ∧ v7 = .slice A3 j c3 ∧ j ≤ p ∧ RL W1 wq g kind B m d C p q ∧ OwN wq B2 A3 j c3 (NS.take j) ∧ ∀ i, i < j → allV (plyAt ps i).ts (ownOf vs ns) (plyAt ps i).ts.length < pw 4096) (fun _ v _ => p - (intOf v).toNat)
    case atStart => exact ⟨0, 0, none, rfl, rfl, Nat.zero_le _, ⟨Below.refl _ _, X1.out⟩, OwN.nil _ _, fun i hi => absurd hi (by omega)⟩
    case round =>
     obtain ⟨j, c3, A3, rfl, rfl, hj, hx, ho, hz⟩ := hrel
     have hpp := HP.out
     have X0 := Lib.hid hx
     have OW := Lib.hid ho
     have HZ := Lib.hid hz
     clear hx ho hz
     have c2' := X0.out.bx.c2
     by_cases hjp : j < p
     · have t1 : decide ((j : Int) < (p : Int)) = true := decide_eq_true (by omega)
       have t1n : decide (j < p) = true := decide_eq_true hjp
       have hjI : (j : Int) < (p : Int) := by omega
       have HLW2 := Lib.hid (HLW.out.trans (X0.out.low.mono HLW.out.size))
       obtain ⟨bP, oP, rfl, _, hcP⟩ := (HI.out.2.1.below HLW2.out).at_ (by omega)
       obtain ⟨A4, n4, c4, hP⟩ := hcP j hjp
       obtain ⟨pl, hpl⟩ : ∃ x, x = plyAt ps j := ⟨_, rfl⟩
       have HPL := Lib.hid hpl
       rw [← hpl] at hP
       clear hpl hcP
       obtain ⟨V', ts⟩ := pl
       have d0 := hP.c0
       have d1 := hP.c1
       dsimp only at d0
       have PT := Lib.hid hP.rt
       have RO := Lib.hid (OWR.out.below X0.out.low)
       clear hP
       have hV1 := vl_polys HV.out.1 j (by have := HL.out.2.1; omega)
       rw [← HPL.out] at hV1
       have HV1 := Lib.hid hV1
       clear hV1
       go_wp2_with fail
       refine (refPolyEval_c V' A4 n4 c4 ts A2 m c2 (ownOf vs ns) _ PT.out RO.out HV1.out.2 HOS.out (by rw [HV1.out.1, HL.out.1])).mono ?_
       rintro e W3 ⟨t', B', m', d', rfl, hE0, hEs, hb⟩
       have X3 := Lib.hid (X0.out.next hb)
       have OW3 := Lib.hid (OW.out.keep hb)
       obtain ⟨lg, hlg⟩ : ∃ x, x = longB ts (ownOf vs ns) ts.length := ⟨_, rfl⟩
       rw [← hlg]
       have HLG := Lib.hid hlg
       have IE := Lib.hid hE0
       clear hb hE0 hEs X0 OW PT d0 d1 RO c2' hlg
       have hba := bel_alloc W3 (.cells #[.bool t', .slice B' m' d'] 58)
       have XV := Lib.hid (NV.new W3 t' B' m' d')
       have X4 := Lib.hid (X3.out.next hba)
       have OW4 := Lib.hid (OW3.out.keep hba)
       have IE4 := Lib.hid (IE.out.below hba)
       clear hba X3 OW3 IE
       go_upto_region 10 with (fail)
       generalize W3.alloc (.cells #[.bool t', .slice B' m' d'] 58) = W4 at XV X4 OW4 IE4 ⊢
       generalize W3.heap.size = gv at XV ⊢
       cases lg with
       | true =>
         have HF := Lib.hid (show okPs ps (ownOf vs ns) = false from decide_eq_false fun hq => by
          have h1 := hq j (by have := HL.out.2.1; omega)
          rw [← HPL.out] at h1
          have h2 := HLG.out
          simp only [longB] at h2
          rw [decide_eq_true h1] at h2
          cases h2)
         have P := Lib.hid (HLW.out.trans (X4.out.low.mono HLW.out.size))
         go_wp2
         refine bodyPost_ret (v := .tuple #[.slice none 0 0, .bool false]) (by simp [results, Tryz.results43, go_sem]) rfl ?_
         exact .inr ⟨HF.out, rfl, P.out⟩
       | false =>
         have HA := Lib.hid (show allV ts (ownOf vs ns) ts.length < pw 4096 from by
          have h2 := HLG.out.symm
          simp only [longB, Bool.not_eq_false', decide_eq_true_eq] at h2
          exact h2)
         have HSZ := Lib.hid (show Sz (pVal ts (ownOf vs ns)) 4096 from Nat.lt_of_le_of_lt (sumV_le ts (ownOf vs ns) ts.length) HA.out)
         have x0 := XV.out.r0
         have x1 := XV.out.r1
         have hm4 := IE4.out.len HSZ.out
         go_wp2_with fail
         refine (fits_c t' B' m' d' _).mono ?_
         rintro e W5 ⟨rfl, hb⟩
         rw [decide_eq_true hm4]
         have XV5 := Lib.hid (XV.out.next hb)
         have X5 := Lib.hid (X4.out.next hb)
         have OW5 := Lib.hid (OW4.out.keep hb)
         have IE5 := Lib.hid (IE4.out.below hb)
         clear hb XV X4 OW4 IE4 x0 x1 hm4
         have x0 := XV5.out.r0
         have x1 := XV5.out.r1
         go_upto_region 12 with (fail)
         go_wp2_with (at_builtin; refine wpList_app_nm rfl (.tmp 53) (.tmp 55) rfl B2 A3 j c3 (NS.take j) W5.heap.size 1 t' B' m' d' (words (pVal ts (ownOf vs ns)).natAbs) rfl rfl (OW5.out.keep (bel_alloc _ _)) (by rw [World.size_alloc]; have := HB2.out; have := X5.out.low.size; omega) (NV.new _ _ _ _ _) (IE5.out.2.2.1.below (bel_alloc _ _)) IE5.out.2.2.2.1 IE5.out.2.2.2.2 (by omega) ?_)
         intro g' c' w9 h1 hb
         have hba := bel_alloc W5 (.cells #[.bool t', .slice B' m' d'] 58)
         rw [show NS.take j ++ [⟨t', words (pVal ts (ownOf vs ns)).natAbs⟩] = NS.take (j + 1) from by
          rw [← HNS.out j (by have := HL.out.2.1; omega), ← HPL.out, IE5.out.1]
          rfl] at h1
         have OW6 := Lib.hid h1
         have hs1 := HB2.out
         have hs2 := X1.out.lt
         have X6 := Lib.hid ((X5.out.next hba).under (Bd := B2) (by omega) (by omega) hb)
         have HZ6 := Lib.hid (show ∀ i, i < j + 1 → allV (plyAt ps i).ts (ownOf vs ns) (plyAt ps i).ts.length < pw 4096 from fun i hi => by
          by_cases e : i = j
          · rw [e, ← HPL.out]; exact HA.out
          · exact HZ.out i (by omega))
         clear h1 hb hba hs1 hs2 X5 OW5 IE5 HA HSZ HZ HPL HV1 HLG x0 x1 XV5
         go_wp2
         go_roundw
         case measure => simp [intOf]; omega
         case rel => exact ⟨j + 1, c', some ⟨g', 0, none⟩, by go_num, by go_num, by omega, X6.out, OW6.out, HZ6.out⟩
     · have e : j = p := by omega
       have t1 : decide ((j : Int) < (p : Int)) = false := decide_eq_false (by omega)
       have t1n : decide (j < p) = false := decide_eq_false hjp
       have HR := Lib.hid (show RValsP ps (ownOf vs ns) w (.returned (.tuple #[.slice A3 j c3, .bool true])) wr from by
        have hl := HL.out.2.1
        refine .inl ⟨decide_eq_true fun i hi => HZ.out i (by omega), A3, c3, by rw [hl, e], ?_, HLW.out.trans (X0.out.low.mono HLW.out.size)⟩
        have h := OW.out.rd
        rw [List.take_of_length_le (by have := HNL.out; omega), e, ← hl, HNE.out] at h
        exact h)
       go_wp2
       refine bodyPost_ret (v := .tuple #[.slice A3 j c3, .bool true]) (by simp [results, Tryz.results43, go_sem]) rfl ?_
       exact HR.out
end Go.Proofs.YteabokkofoomkaaGreat

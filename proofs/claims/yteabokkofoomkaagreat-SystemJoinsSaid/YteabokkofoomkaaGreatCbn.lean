import Derived.Test.YteabokkofoomkaaGreatCak
import Derived.Test.YteabokkofoomkaaGreatCbm
import Derived.Test.YteabokkofoomkaaGreatCbj
set_option maxRecDepth 100000
namespace Go.Proofs.YteabokkofoomkaaGreat
open Go.RowKit Go.Shelf Go.Deep
theorem pw_lt {m n : Nat} (h : m < n) : pw m < pw n := by
 unfold pw; exact Nat.pow_lt_pow_right (by omega) h
structure JW (w W : World) (g : Nat) (V : Int) (A : Option Addr) (n c : Nat) (V' : Int) (A' : Option Addr) (n' c' : Nat) : Prop where
 low : Below w.heap.size w W
 xa : BxY W g V A n c
 xb : BxY W (g + 1) V' A' n' c'
theorem JW.next {w W W' : World} {g : Nat} {V : Int} {A : Option Addr} {n c : Nat} {V' : Int} {A' : Option Addr} {n' c' : Nat} (h : JW w W g V A n c V' A' n' c') (hb : Below W.heap.size W W') : JW w W' g V A n c V' A' n' c' :=
 ⟨h.low.trans (hb.mono h.low.size), h.xa.next hb, h.xb.next hb⟩
theorem JW.under {w W W' : World} {g : Nat} {V : Int} {A : Option Addr} {n c : Nat} {V' : Int} {A' : Option Addr} {n' c' : Nat} (h : JW w W g V A n c V' A' n' c') {N : Nat} (hw : w.heap.size ≤ N) (h2 : g + 1 < N) (hb : Below N W W') : JW w W' g V A n c V' A' n' c' :=
 ⟨h.low.trans (hb.mono hw), ⟨Nat.lt_of_lt_of_le h.xa.lt hb.size, (hb.cell (p := ⟨g, 0, none⟩) (by show g < N; omega)).trans h.xa.c0, (hb.cell (p := ⟨g, 1, none⟩) (by show g < N; omega)).trans h.xa.c1⟩,
  ⟨Nat.lt_of_lt_of_le h.xb.lt hb.size, (hb.cell (p := ⟨g + 1, 0, none⟩) h2).trans h.xb.c0, (hb.cell (p := ⟨g + 1, 1, none⟩) h2).trans h.xb.c1⟩⟩
theorem rdL_nil (W : World) : RdL W none 0 [] := ⟨rfl, fun h => absurd h (Nat.lt_irrefl 0)⟩
theorem pw_600 : pw 600 < pw 4096 := pw_lt (by omega)
set_option maxHeartbeats 16000000 in
theorem SystemJoins_c (V : Int) (A : Option Addr) (n c : Nat) (ls : List Lnk) (V' : Int) (A' : Option Addr) (n' c' : Nat) (ls' : List Lnk) (X : Option Addr) (nx cx : Nat) (ns : List Nmr) (w : World) (h : RdL w A n ls) (hn : n ≤ c) (hc : c ≤ 9223372036854775807) (h' : RdL w A' n' ls') (hn' : n' ≤ c') (hc' : c' ≤ 9223372036854775807) (hx : RdN w X nx ns) (hnx : nx ≤ cx) (hcx : cx ≤ 9223372036854775807) :
 Calls Tryz.prog 4 #[aggS V A n c, aggS V' A' n' c', .slice X nx cx] w (IsB true w) := by
 have k0 := bel_alloc w (boxS V A n c)
 have k1 := bel_alloc (w.alloc (boxS V A n c)) (boxS V' A' n' c')
 obtain ⟨g, hg⟩ : ∃ g, g = w.heap.size := ⟨_, rfl⟩
 have J := Lib.hid (show JW w ((w.alloc (boxS V A n c)).alloc (boxS V' A' n' c')) g V A n c V' A' n' c' from by
  have e0 : (w.alloc (boxS V A n c)).heap.size = g + 1 := by rw [World.size_alloc, hg]
  refine ⟨k0.trans (k1.mono k0.size), ?_, ?_⟩
  · rw [hg]; exact (BxY.new w V A n c).next k1
  · rw [← e0]; exact BxY.new _ V' A' n' c')
 have HI := Lib.hid (And.intro h (And.intro h' hx))
 have HL := Lib.hid (And.intro h.len (And.intro h'.len hx.len))
 have HN := Lib.hid (show n ≤ 9223372036854775807 ∧ n' ≤ 9223372036854775807 ∧ nx ≤ 9223372036854775807 by omega)
 have HG := Lib.hid (show w.heap.size ≤ g by omega)
 clear k0 k1 h h' hx hn hc hn' hc' hnx hcx
 go_enter Tryz.func4, Tryz.ntmps4
 go_upto_region 1 with (fail)
 generalize (w.alloc (boxS V A n c)).alloc (boxS V' A' n' c') = W0 at J ⊢
 rw [← hg]
 clear hg
 have a0 := J.out.xa.c0
 have a1 := J.out.xa.c1
 go_wp2_with fail
 by_cases q4 : 400 < n
 case pos =>
  refine (lightBig_c V A n c X nx cx 300 _ q4 HN.out.1).mono ?_
  rintro e w1 ⟨rfl, hb⟩
  replace J := Lib.hid (J.out.next hb)
  clear hb a0 a1
  go_wp2_with fail
  refine (awake9_c _).mono ?_
  rintro e w9 ⟨rfl, hb⟩
  have P := Lib.hid (J.out.low.trans (hb.mono J.out.low.size))
  clear hb
  go_wp2
  go_ret
  exact ⟨rfl, P.out⟩
 refine (light9_c V A n c ls X nx cx ns 300 _ (HI.out.1.below J.out.low) (HI.out.2.2.below J.out.low) HN.out.2.2 HN.out.1).mono ?_
 rintro e w1 ⟨v, rfl, hb, hms⟩
 replace J := Lib.hid (J.out.next hb)
 have HMS := Lib.hid hms
 have HN4 := Lib.hid q4
 clear hb a0 a1 hms q4
 cases v with
 | false =>
   go_wp2_with fail
   refine (awake9_c _).mono ?_
   rintro e w9 ⟨rfl, hb⟩
   have P := Lib.hid (J.out.low.trans (hb.mono J.out.low.size))
   clear hb
   go_wp2
   go_ret
   exact ⟨rfl, P.out⟩
 | true =>
 have b0 := J.out.xb.c0
 have b1 := J.out.xb.c1
 go_wp2_with fail
 by_cases q4 : 400 < n'
 case pos =>
  refine (lightBig_c V' A' n' c' X nx cx 300 _ q4 HN.out.2.1).mono ?_
  rintro e w2 ⟨rfl, hb⟩
  replace J := Lib.hid (J.out.next hb)
  clear hb b0 b1
  go_wp2_with fail
  refine (awake9_c _).mono ?_
  rintro e w9 ⟨rfl, hb⟩
  have P := Lib.hid (J.out.low.trans (hb.mono J.out.low.size))
  clear hb
  go_wp2
  go_ret
  exact ⟨rfl, P.out⟩
 refine (light9_c V' A' n' c' ls' X nx cx ns 300 _ (HI.out.2.1.below J.out.low) (HI.out.2.2.below J.out.low) HN.out.2.2 HN.out.2.1).mono ?_
 rintro e w2 ⟨v, rfl, hb, hms⟩
 replace J := Lib.hid (J.out.next hb)
 have HMS2 := Lib.hid hms
 have HN5 := Lib.hid (show n + n' ≤ 800 by have := HN4.out; omega)
 clear hb b0 b1 hms q4
 cases v with
 | false =>
   go_wp2_with fail
   refine (awake9_c _).mono ?_
   rintro e w9 ⟨rfl, hb⟩
   have P := Lib.hid (J.out.low.trans (hb.mono J.out.low.size))
   clear hb
   go_wp2
   go_ret
   exact ⟨rfl, P.out⟩
 | true =>
 have a0 := J.out.xa.c0
 have a1 := J.out.xa.c1
 have b0 := J.out.xb.c0
 have b1 := J.out.xb.c1
 go_wp2_with fail
 refine (sysJoin_c V A n c ls V' A' n' c' ls' _ (HI.out.1.below J.out.low) (HI.out.2.1.below J.out.low) (by have := HN5.out; omega)).mono ?_
 rintro e w3 hJ
 clear a0 a1 b0 b1
 by_cases qv : (validS V ls && validS V' ls') = true
 case neg =>
  have qf : (validS V ls && validS V' ls') = false := by simpa using qv
  obtain ⟨rfl, hb⟩ := hJ.form qf
  replace J := Lib.hid (J.out.next hb)
  have HQ := Lib.hid qf
  clear hb hJ qv qf
  have k1 := bel_alloc w3 (boxS 0 none 0 0)
  have XC := Lib.hid (BxY.new w3 0 none 0 0)
  replace J := Lib.hid (J.out.next k1)
  clear k1
  go_upto_region 4 with (fail)
  generalize w3.alloc (boxS 0 none 0 0) = W3 at J XC ⊢
  generalize w3.heap.size = gc at XC ⊢
  have a0 := J.out.xa.c0
  have a1 := J.out.xa.c1
  go_wp2_with fail
  refine (refSysValid_c V A n c ls _ (HI.out.1.below J.out.low)).mono ?_
  rintro e w4 ⟨rfl, hb⟩
  replace J := Lib.hid (J.out.next hb)
  replace XC := Lib.hid (XC.out.next hb)
  clear hb a0 a1
  obtain ⟨v, hv⟩ : ∃ v, v = validS V ls := ⟨_, rfl⟩
  rw [← hv]
  rw [← hv] at HQ
  clear hv
  cases v with
  | false =>
    have x0 := XC.out.c0
    have x1 := XC.out.c1
    go_wp2_with fail
    refine (refSysSame_t 0 none 0 0 none 0 [] _ (rdL_nil _) (rdL_nil _) (by omega) (fun i hi => absurd hi (by omega))).mono ?_
    rintro e w6 ⟨rfl, hb⟩
    replace J := Lib.hid (J.out.next hb)
    clear hb x0 x1
    go_wp2_with fail
    refine (awake9_c _).mono ?_
    rintro e w9 ⟨rfl, hb⟩
    have P := Lib.hid (J.out.low.trans (hb.mono J.out.low.size))
    clear hb
    go_wp2
    go_ret
    exact ⟨rfl, P.out⟩
  | true =>
  have b0 := J.out.xb.c0
  have b1 := J.out.xb.c1
  go_wp2_with fail
  refine (refSysValid_c V' A' n' c' ls' _ (HI.out.2.1.below J.out.low)).mono ?_
  rintro e w5 ⟨rfl, hb⟩
  replace J := Lib.hid (J.out.next hb)
  replace XC := Lib.hid (XC.out.next hb)
  rw [show validS V' ls' = false from HQ.out]
  clear hb b0 b1
  have x0 := XC.out.c0
  have x1 := XC.out.c1
  go_wp2_with fail
  refine (refSysSame_t 0 none 0 0 none 0 [] _ (rdL_nil _) (rdL_nil _) (by omega) (fun i hi => absurd hi (by omega))).mono ?_
  rintro e w6 ⟨rfl, hb⟩
  replace J := Lib.hid (J.out.next hb)
  clear hb x0 x1
  go_wp2_with fail
  refine (awake9_c _).mono ?_
  rintro e w9 ⟨rfl, hb⟩
  have P := Lib.hid (J.out.low.trans (hb.mono J.out.low.size))
  clear hb
  go_wp2
  go_ret
  exact ⟨rfl, P.out⟩
 have HV := Lib.hid (show validS V ls = true ∧ validS V' ls' = true by simpa using qv)
 by_cases hm : V = V'
 case neg =>
  obtain ⟨rfl, hb⟩ := hJ.arg qv hm
  replace J := Lib.hid (J.out.next hb)
  have t0 : (V != V') = true := by rw [bne_iff_ne]; exact hm
  clear hb hJ qv hm
  have k1 := bel_alloc w3 (boxS 0 none 0 0)
  have XC := Lib.hid (BxY.new w3 0 none 0 0)
  replace J := Lib.hid (J.out.next k1)
  clear k1
  go_upto_region 4 with (fail)
  generalize w3.alloc (boxS 0 none 0 0) = W3 at J XC ⊢
  generalize w3.heap.size = gc at XC ⊢
  have a0 := J.out.xa.c0
  have a1 := J.out.xa.c1
  go_wp2_with fail
  refine (refSysValid_c _ A n c ls _ (HI.out.1.below J.out.low)).mono ?_
  rintro e w4 ⟨rfl, hb⟩
  rw [HV.out.1]
  replace J := Lib.hid (J.out.next hb)
  replace XC := Lib.hid (XC.out.next hb)
  clear hb a0 a1
  have b0 := J.out.xb.c0
  have b1 := J.out.xb.c1
  go_wp2_with fail
  refine (refSysValid_c _ A' n' c' ls' _ (HI.out.2.1.below J.out.low)).mono ?_
  rintro e w5 ⟨rfl, hb⟩
  rw [HV.out.2]
  replace J := Lib.hid (J.out.next hb)
  replace XC := Lib.hid (XC.out.next hb)
  clear hb b0 b1
  have a0 := J.out.xa.c0
  have b0 := J.out.xb.c0
  have x0 := XC.out.c0
  have x1 := XC.out.c1
  go_wp2_with fail
  refine (refSysSame_t 0 none 0 0 none 0 [] _ (rdL_nil _) (rdL_nil _) (by omega) (fun i hi => absurd hi (by omega))).mono ?_
  rintro e w6 ⟨rfl, hb⟩
  replace J := Lib.hid (J.out.next hb)
  clear hb x0 x1
  go_wp2_with fail
  refine (awake9_c _).mono ?_
  rintro e w9 ⟨rfl, hb⟩
  have P := Lib.hid (J.out.low.trans (hb.mono J.out.low.size))
  clear hb
  go_wp2
  go_ret
  exact ⟨rfl, P.out⟩
 obtain ⟨LC, cC, rfl, hrl, hnc, hcm, hb⟩ := hJ.ok qv hm
 subst hm
 have t0 : (V != V) = false := bne_self_eq_false _
 obtain ⟨N, hN⟩ : ∃ N, N = (ls ++ ls').length := ⟨_, rfl⟩
 rw [← hN] at hrl hnc ⊢
 have HNN := Lib.hid (show N = n + n' by rw [hN, List.length_append, HL.out.1, HL.out.2.1])
 have HLL := Lib.hid hN
 have RC := Lib.hid hrl
 have HCC := Lib.hid (And.intro hnc hcm)
 replace J := Lib.hid (J.out.next hb)
 clear hb hJ qv hrl hnc hcm hN
 have k1 := bel_alloc w3 (boxS V LC N cC)
 have XC := Lib.hid (BxY.new w3 V LC N cC)
 replace J := Lib.hid (J.out.next k1)
 replace RC := Lib.hid (RC.out.below k1)
 clear k1
 go_upto_region 4 with (fail)
 generalize w3.alloc (boxS V LC N cC) = W3 at J XC RC ⊢
 generalize w3.heap.size = gc at XC ⊢
 have a0 := J.out.xa.c0
 have a1 := J.out.xa.c1
 go_wp2_with fail
 refine (refSysValid_c _ A n c ls _ (HI.out.1.below J.out.low)).mono ?_
 rintro e w4 ⟨rfl, hb⟩
 rw [HV.out.1]
 replace J := Lib.hid (J.out.next hb)
 replace XC := Lib.hid (XC.out.next hb)
 replace RC := Lib.hid (RC.out.below hb)
 clear hb a0 a1
 have b0 := J.out.xb.c0
 have b1 := J.out.xb.c1
 go_wp2_with fail
 refine (refSysValid_c _ A' n' c' ls' _ (HI.out.2.1.below J.out.low)).mono ?_
 rintro e w5 ⟨rfl, hb⟩
 rw [HV.out.2]
 replace J := Lib.hid (J.out.next hb)
 replace XC := Lib.hid (XC.out.next hb)
 replace RC := Lib.hid (RC.out.below hb)
 clear hb b0 b1
 have a0 := J.out.xa.c0
 have a1 := J.out.xa.c1
 have b0 := J.out.xb.c0
 have b1 := J.out.xb.c1
 go_upto_region 8 with (fail)
 clear a0 a1 b0 b1 t0
 generalize w5 = W8 at J XC RC ⊢
 have BW := Lib.hid (Below.refl W8.heap.size W8)
 refine wp_region_tail (S := (fun w' => w'.cell? ⟨g, 0, none⟩ = some (.int .i64 V) ∧ w'.cell? ⟨g, 1, none⟩ = some ((.slice A n c)) ∧ w'.cell? ⟨(g + 1), 1, none⟩ = some ((.slice A' n' c')))) 11 (by kernel_rfl) (by kernel_rfl) (by intro c a d v w h; cases d <;> exact h) (⟨cell_drq (J.out.next BW.out).xa.c0, cell_drq (J.out.next BW.out).xa.c1, cell_drq (J.out.next BW.out).xb.c1⟩) (fun QT hT hP hHeld => ?_)
 simp only [List.extract_toArray, List.extract_eq_take_drop, List.drop_zero, Nat.sub_zero, List.take_succ_cons, List.take_zero]
 have HT := Lib.hid hT
 clear hT
 replace BW := Lib.hid (BW.out.trans ((Below.refl W8.heap.size W8).drew.mono BW.out.size))
 generalize W8.drew = D1 at BW hHeld ⊢
 refine tkk 0 68 rfl rfl (by kernel_rfl) (hP · · _) (by rfl) (fun w h => by obtain ⟨h0, h1, h2⟩ := h; go_simp; rfl) (by assumption) ?_
 simp only [set0, set1]
 refine tkk 1 69 rfl rfl (by kernel_rfl) (hP · · _) (by rfl) (fun w h => by obtain ⟨h0, h1, h2⟩ := h; go_simp; rfl) (by assumption) ?_
 simp only [set0, set1]
 refine tkk 3 71 rfl rfl (by kernel_rfl) (hP · · _) (by rfl) (fun w h => by obtain ⟨h0, h1, h2⟩ := h; go_simp; rfl) (by assumption) ?_
 simp only [set0, set1]
 refine tkk 4 72 rfl rfl (by kernel_rfl) (hP · · _) (by rfl) (fun w h => by obtain ⟨h0, h1, h2⟩ := h; go_simp; rfl) (by assumption) ?_
 simp only [set0, set1]
 refine tkk 6 74 rfl rfl (by kernel_rfl) (hP · · _) (by rfl) (fun w h => by obtain ⟨h0, h1, h2⟩ := h; go_simp; rfl) (by assumption) ?_
 simp only [set0, set1]
 refine tkk 7 75 rfl rfl (by kernel_rfl) (hP · · _) (by rfl) (fun w h => by obtain ⟨h0, h1, h2⟩ := h; go_simp; rfl) (by assumption) ?_
 simp only [set0, set1]
 refine wpAnyH_ready (rs := [2, 10]) (by kernel_rfl) (by simp) ?_
 refine AllReadyH.cons rfl (fun K hK => ?_) ?_
 ·
  go_simp
  have hb := bel_alloc D1 (.cells #[] 51)
  have OW := Lib.hid (own_made9 (C := CRw w) (sz := 3) D1 51 W8.heap.size BW.out.size)
  replace BW := Lib.hid (BW.out.trans (hb.mono BW.out.size))
  clear hb hHeld
  generalize D1.alloc (.cells #[] 51) = v2 at BW OW ⊢
  generalize D1.heap.size = gw at OW ⊢
  refine hK.out _ _ (⟨(J.out.next BW.out).xa.c0, (J.out.next BW.out).xa.c1, (J.out.next BW.out).xb.c1⟩) (fun hHeld => ?_)
  clear hK K
  refine wpAnyH_ready (rs := [5, 10]) (by kernel_rfl) (by simp) ?_
  refine AllReadyH.cons rfl (fun K hK => ?_) ?_
  ·
   refine step_app_K rfl (.tmp 70) (.tmp 72) rfl A n c ls rfl rfl OW.out BW.out.size HI.out.1 (J.out.next BW.out).low (by have := HN5.out; omega) (by have := HN5.out; omega) ?_
   intro L5 c55 v3 h1 hb hch
   rw [Nat.zero_add, List.nil_append] at h1
   try rw [Nat.zero_add n]
   replace OW := Lib.hid h1
   replace BW := Lib.hid (BW.out.trans hb)
   clear h1 hb hch hHeld
   refine hK.out _ _ (⟨(J.out.next BW.out).xa.c0, (J.out.next BW.out).xa.c1, (J.out.next BW.out).xb.c1⟩) (fun hHeld => ?_)
   clear hK K
   refine wpAnyH_ready (rs := [8, 10]) (by kernel_rfl) (by simp) ?_
   refine AllReadyH.cons rfl (fun K hK => ?_) ?_
   ·
    refine step_app_K rfl (.tmp 73) (.tmp 75) rfl A' n' c' ls' rfl rfl OW.out BW.out.size HI.out.2.1 (J.out.next BW.out).low (by have := HN5.out; omega) (by have := HN5.out; omega) ?_
    intro L6 c66 v4 h1 hb hch
    replace OW := Lib.hid h1
    replace BW := Lib.hid (BW.out.trans hb)
    clear h1 hb hch hHeld
    refine hK.out _ _ (⟨(J.out.next BW.out).xa.c0, (J.out.next BW.out).xa.c1, (J.out.next BW.out).xb.c1⟩) (fun hHeld => ?_)
    clear hK K
    refine tkk 9 77 rfl rfl (by kernel_rfl) (hP · · _) (by rfl) (fun w h => by obtain ⟨h0, h1, h2⟩ := h; go_simp; rfl) (by assumption) ?_
    refine wpAnyH_ready (rs := [10]) (by kernel_rfl) (by simp) ?_
    refine AllReadyH.cons rfl (fun K hK => ?_) AllReadyH.nil
    go_simp
    have hb := bel_alloc v4 (boxS 0 none 0 0)
    have VW := Lib.hid (VB.new v4 #[.int .i64 0, .slice none 0 0] 24)
    have HGV := Lib.hid BW.out.size
    replace BW := Lib.hid (BW.out.trans (hb.mono BW.out.size))
    replace OW := Lib.hid (OW.out.keep (CRw.chg) hb)
    clear hb hHeld
    generalize v4.alloc (boxS 0 none 0 0) = v5 at BW OW VW ⊢
    generalize v4.heap.size = gv at VW HGV ⊢
    refine hK.out _ _ (⟨(J.out.next BW.out).xa.c0, (J.out.next BW.out).xa.c1, (J.out.next BW.out).xb.c1⟩) (fun hHeld => ?_)
    clear hK K
    clear hHeld
    refine wpAnyH_done (by kernel_rfl) ?_ _
    refine HT.out _ _ ?_
    clear HT hP QT
    rw [show n + n' = N from HNN.out.symm] at OW ⊢
    have x0 := VW.out.c0
    have x1 := VW.out.c1
    have f0 := VW.out.fr 0
    have f1 := VW.out.fr 1
    refine wpList_step fun K hK => ?_
    go_simp
    refine hK _ _ ?_
    clear hK K
    refine wpList_nil ?_
    have y1 := VW.out.put 0 (.int .i64 V)
    have y2 := y1.put 1 (.slice L6 N c66)
    have s1 := VW.out.set 0 (v := .int .i64 0) rfl (noW_i _) (.int .i64 V)
    have s2 := y1.set 1 (v := .slice none 0 0) rfl (noW_s _ _ _) (.slice L6 N c66)
    have B2 := Lib.hid ((BW.out.setCell (p := ⟨gv, 0, none⟩) HGV.out (.int .i64 V)).setCell (p := ⟨gv, 1, none⟩) HGV.out (.slice L6 N c66))
    have V2 := Lib.hid (show VB ((v5.setCell ⟨gv, 0, none⟩ (.int .i64 V)).setCell ⟨gv, 1, none⟩ (.slice L6 N c66)) gv #[.int .i64 V, .slice L6 N c66] 24 from y2)
    have O2 := Lib.hid (OW.out.chg CRw.chg (s1.trans s2) (by decide))
    clear x0 x1 f0 f1 y1 y2 s1 s2 OW BW VW
    generalize ((v5.setCell ⟨gv, 0, none⟩ (.int .i64 V)).setCell ⟨gv, 1, none⟩ (.slice L6 N c66)) = W9 at B2 V2 O2 ⊢
    have hb := B2.out
    replace J := Lib.hid (J.out.next hb)
    replace XC := Lib.hid (XC.out.next hb)
    replace RC := Lib.hid (RC.out.below hb)
    have RW := Lib.hid (own_rdL O2.out J.out.low)
    clear hb B2 O2 HGV
    have d0 := XC.out.c0
    have d1 := XC.out.c1
    have x0 := V2.out.c0
    have x1 := V2.out.c1
    go_wp2_with fail
    refine (refSysSame_t V LC N cC L6 c66 (ls ++ ls') _ RC.out RW.out (by have h1 := HNN.out; have h2 := HN5.out; omega) (fun i hi => lens_of (lnk_app HV.out.1 HV.out.2 (by rw [← HLL.out]; exact hi)))).mono ?_
    rintro e w6 ⟨rfl, hb⟩
    replace J := Lib.hid (J.out.next hb)
    replace XC := Lib.hid (XC.out.next hb)
    replace RC := Lib.hid (RC.out.below hb)
    clear hb d0 d1 x0 x1 V2 RW
    obtain ⟨T, hT⟩ := bound_join HI.out.1 HI.out.2.1 HI.out.2.2 HV.out.1 HV.out.2 (fun a b => HMS.out (by trivial) HV.out.1 a b) (fun a b => HMS2.out (by trivial) HV.out.2 a b)
    have HT := Lib.hid hT
    clear hT
    have HVS1 := Lib.hid HV.out.1
    have HVS2 := Lib.hid HV.out.2
    have HVS3 := Lib.hid (valid_app HV.out.1 HV.out.2 (by rw [HL.out.1, HL.out.2.1]; have := HN5.out; omega))
    by_cases qa : allB ns = true
    case neg =>
     have QA := Lib.hid (show allB ns = false by simpa using qa)
     clear qa
     have a0 := J.out.xa.c0
     have a1 := J.out.xa.c1
     go_wp2_with fail
     refine (sysHolds_c T V A n c ls X nx cx ns _ (HI.out.1.below J.out.low) (HI.out.2.2.below J.out.low) HN.out.2.2 (fun _ _ => HT.out.1)).mono ?_
     rintro e y1 hH
     obtain ⟨rfl, hb⟩ := hH.form (by rw [HVS1.out, QA.out]; rfl)
     replace J := Lib.hid (J.out.next hb)
     replace XC := Lib.hid (XC.out.next hb)
     replace RC := Lib.hid (RC.out.below hb)
     clear hb hH a0 a1
     have b0 := J.out.xb.c0
     have b1 := J.out.xb.c1
     go_wp2_with fail
     refine (sysHolds_c T V A' n' c' ls' X nx cx ns _ (HI.out.2.1.below J.out.low) (HI.out.2.2.below J.out.low) HN.out.2.2 (fun _ _ => HT.out.2.1)).mono ?_
     rintro e y2 hH
     obtain ⟨rfl, hb⟩ := hH.form (by rw [HVS2.out, QA.out]; rfl)
     replace J := Lib.hid (J.out.next hb)
     replace XC := Lib.hid (XC.out.next hb)
     replace RC := Lib.hid (RC.out.below hb)
     clear hb hH b0 b1
     have d0 := XC.out.c0
     have d1 := XC.out.c1
     go_wp2_with fail
     refine (sysHolds_c T V LC N cC (ls ++ ls') X nx cx ns _ RC.out (HI.out.2.2.below J.out.low) HN.out.2.2 (fun _ _ => HT.out.2.2.1)).mono ?_
     rintro e y3 hH
     obtain ⟨rfl, hb⟩ := hH.form (by rw [HVS3.out, QA.out]; rfl)
     replace J := Lib.hid (J.out.next hb)
     replace XC := Lib.hid (XC.out.next hb)
     replace RC := Lib.hid (RC.out.below hb)
     clear hb hH d0 d1
     go_wp2_with fail
     refine (awake9_c _).mono ?_
     rintro e w9 ⟨rfl, hb⟩
     have P := Lib.hid (J.out.low.trans (hb.mono J.out.low.size))
     clear hb
     go_wp2
     go_ret
     exact ⟨rfl, P.out⟩
    have QA := Lib.hid qa
    clear qa
    by_cases qb : (ns.length : Int) = V ∧ natB ns = true
    case neg =>
     have QB := Lib.hid (show ¬ (ns.length : Int) = V ∨ natB ns = false by
      by_cases q : (ns.length : Int) = V
      · exact .inr (by simpa [q] using qb)
      · exact .inl q)
     clear qb
     have a0 := J.out.xa.c0
     have a1 := J.out.xa.c1
     go_wp2_with fail
     refine (sysHolds_c T V A n c ls X nx cx ns _ (HI.out.1.below J.out.low) (HI.out.2.2.below J.out.low) HN.out.2.2 (fun _ _ => HT.out.1)).mono ?_
     rintro e y1 hH
     obtain ⟨rfl, hb⟩ := hH.arg (by rw [HVS1.out, QA.out]; rfl) QB.out
     replace J := Lib.hid (J.out.next hb)
     replace XC := Lib.hid (XC.out.next hb)
     replace RC := Lib.hid (RC.out.below hb)
     clear hb hH a0 a1
     have b0 := J.out.xb.c0
     have b1 := J.out.xb.c1
     go_wp2_with fail
     refine (sysHolds_c T V A' n' c' ls' X nx cx ns _ (HI.out.2.1.below J.out.low) (HI.out.2.2.below J.out.low) HN.out.2.2 (fun _ _ => HT.out.2.1)).mono ?_
     rintro e y2 hH
     obtain ⟨rfl, hb⟩ := hH.arg (by rw [HVS2.out, QA.out]; rfl) QB.out
     replace J := Lib.hid (J.out.next hb)
     replace XC := Lib.hid (XC.out.next hb)
     replace RC := Lib.hid (RC.out.below hb)
     clear hb hH b0 b1
     have d0 := XC.out.c0
     have d1 := XC.out.c1
     go_wp2_with fail
     refine (sysHolds_c T V LC N cC (ls ++ ls') X nx cx ns _ RC.out (HI.out.2.2.below J.out.low) HN.out.2.2 (fun _ _ => HT.out.2.2.1)).mono ?_
     rintro e y3 hH
     obtain ⟨rfl, hb⟩ := hH.arg (by rw [HVS3.out, QA.out]; rfl) QB.out
     replace J := Lib.hid (J.out.next hb)
     replace XC := Lib.hid (XC.out.next hb)
     replace RC := Lib.hid (RC.out.below hb)
     clear hb hH d0 d1
     go_wp2_with fail
     refine (awake9_c _).mono ?_
     rintro e w9 ⟨rfl, hb⟩
     have P := Lib.hid (J.out.low.trans (hb.mono J.out.low.size))
     clear hb
     go_wp2
     go_ret
     exact ⟨rfl, P.out⟩
    have QB := Lib.hid qb
    clear qb
    have a0 := J.out.xa.c0
    have a1 := J.out.xa.c1
    go_wp2_with fail
    refine (sysHolds_c T V A n c ls X nx cx ns _ (HI.out.1.below J.out.low) (HI.out.2.2.below J.out.low) HN.out.2.2 (fun _ _ => HT.out.1)).mono ?_
    rintro e y1 hH
    obtain ⟨r1, k1, rfl, hst, hr, hr2, hb⟩ := hH.val (by rw [HVS1.out, QA.out]; rfl) QB.out.1 QB.out.2
    obtain rfl : k1 = 0 := hst.resolve_right (fun z => by have h1 := z.2; rw [HT.out.2.2.2 (by rw [← HL.out.2.2]; exact QB.out.1) QA.out] at h1; have h2 := pw_600; omega)
    have HR1 := Lib.hid (hr rfl)
    clear hst hr hr2
    replace J := Lib.hid (J.out.next hb)
    replace XC := Lib.hid (XC.out.next hb)
    replace RC := Lib.hid (RC.out.below hb)
    clear hb hH a0 a1
    have b0 := J.out.xb.c0
    have b1 := J.out.xb.c1
    go_wp2_with fail
    refine (sysHolds_c T V A' n' c' ls' X nx cx ns _ (HI.out.2.1.below J.out.low) (HI.out.2.2.below J.out.low) HN.out.2.2 (fun _ _ => HT.out.2.1)).mono ?_
    rintro e y2 hH
    obtain ⟨r2, k2, rfl, hst, hr, hr2, hb⟩ := hH.val (by rw [HVS2.out, QA.out]; rfl) QB.out.1 QB.out.2
    obtain rfl : k2 = 0 := hst.resolve_right (fun z => by have h1 := z.2; rw [HT.out.2.2.2 (by rw [← HL.out.2.2]; exact QB.out.1) QA.out] at h1; have h2 := pw_600; omega)
    have HR2 := Lib.hid (hr rfl)
    clear hst hr hr2
    replace J := Lib.hid (J.out.next hb)
    replace XC := Lib.hid (XC.out.next hb)
    replace RC := Lib.hid (RC.out.below hb)
    clear hb hH b0 b1
    have d0 := XC.out.c0
    have d1 := XC.out.c1
    go_wp2_with fail
    refine (sysHolds_c T V LC N cC (ls ++ ls') X nx cx ns _ RC.out (HI.out.2.2.below J.out.low) HN.out.2.2 (fun _ _ => HT.out.2.2.1)).mono ?_
    rintro e y3 hH
    obtain ⟨r3, k3, rfl, hst, hr, hr2, hb⟩ := hH.val (by rw [HVS3.out, QA.out]; rfl) QB.out.1 QB.out.2
    obtain rfl : k3 = 0 := hst.resolve_right (fun z => by have h1 := z.2; rw [HT.out.2.2.2 (by rw [← HL.out.2.2]; exact QB.out.1) QA.out] at h1; have h2 := pw_600; omega)
    have HR3 := Lib.hid (hr rfl)
    clear hst hr hr2
    replace J := Lib.hid (J.out.next hb)
    replace XC := Lib.hid (XC.out.next hb)
    replace RC := Lib.hid (RC.out.below hb)
    clear hb hH d0 d1
    have HR4 := Lib.hid (show r3 = (r1 && r2) by rw [HR1.out, HR2.out, HR3.out, holds_app])
    have hr4 := HR4.out
    subst hr4
    clear HR1 HR2 HR3 HR4
    cases r1 with
    | false =>
      cases r2 with
      | false =>
        go_wp2_with fail
        refine (awake9_c _).mono ?_
        rintro e w9 ⟨rfl, hb⟩
        have P := Lib.hid (J.out.low.trans (hb.mono J.out.low.size))
        clear hb
        go_wp2
        go_ret
        exact ⟨rfl, P.out⟩
      | true =>
        go_wp2_with fail
        refine (awake9_c _).mono ?_
        rintro e w9 ⟨rfl, hb⟩
        have P := Lib.hid (J.out.low.trans (hb.mono J.out.low.size))
        clear hb
        go_wp2
        go_ret
        exact ⟨rfl, P.out⟩
    | true =>
      cases r2 with
      | false =>
        go_wp2_with fail
        refine (awake9_c _).mono ?_
        rintro e w9 ⟨rfl, hb⟩
        have P := Lib.hid (J.out.low.trans (hb.mono J.out.low.size))
        clear hb
        go_wp2
        go_ret
        exact ⟨rfl, P.out⟩
      | true =>
        go_wp2_with fail
        refine (awake9_c _).mono ?_
        rintro e w9 ⟨rfl, hb⟩
        have P := Lib.hid (J.out.low.trans (hb.mono J.out.low.size))
        clear hb
        go_wp2
        go_ret
        exact ⟨rfl, P.out⟩
   refine AllReadyH.cons rfl (fun K hK => ?_) ?_
   ·
    go_simp
    have hb := bel_alloc v3 (boxS 0 none 0 0)
    have VW := Lib.hid (VB.new v3 #[.int .i64 0, .slice none 0 0] 24)
    have HGV := Lib.hid BW.out.size
    replace BW := Lib.hid (BW.out.trans (hb.mono BW.out.size))
    replace OW := Lib.hid (OW.out.keep (CRw.chg) hb)
    clear hb hHeld
    generalize v3.alloc (boxS 0 none 0 0) = v6 at BW OW VW ⊢
    generalize v3.heap.size = gv at VW HGV ⊢
    refine hK.out _ _ (⟨(J.out.next BW.out).xa.c0, (J.out.next BW.out).xa.c1, (J.out.next BW.out).xb.c1⟩) (fun hHeld => ?_)
    clear hK K
    refine wpAnyH_ready (rs := [8]) (by kernel_rfl) (by simp) ?_
    refine AllReadyH.cons rfl (fun K hK => ?_) AllReadyH.nil
    refine step_app_K rfl (.tmp 73) (.tmp 75) rfl A' n' c' ls' rfl rfl OW.out BW.out.size HI.out.2.1 (J.out.next BW.out).low (by have := HN5.out; omega) (by have := HN5.out; omega) ?_
    intro L6 c66 v7 h1 hb hch
    replace OW := Lib.hid h1
    replace BW := Lib.hid (BW.out.trans hb)
    replace VW := Lib.hid (VW.out.chg hch (by decide))
    clear h1 hb hch hHeld
    refine hK.out _ _ (⟨(J.out.next BW.out).xa.c0, (J.out.next BW.out).xa.c1, (J.out.next BW.out).xb.c1⟩) (fun hHeld => ?_)
    clear hK K
    refine tkk 9 77 rfl rfl (by kernel_rfl) (hP · · _) (by rfl) (fun w h => by obtain ⟨h0, h1, h2⟩ := h; go_simp; rfl) (by assumption) ?_
    clear hHeld
    refine wpAnyH_done (by kernel_rfl) ?_ _
    refine HT.out _ _ ?_
    clear HT hP QT
    rw [show n + n' = N from HNN.out.symm] at OW ⊢
    have x0 := VW.out.c0
    have x1 := VW.out.c1
    have f0 := VW.out.fr 0
    have f1 := VW.out.fr 1
    refine wpList_step fun K hK => ?_
    go_simp
    refine hK _ _ ?_
    clear hK K
    refine wpList_nil ?_
    have y1 := VW.out.put 0 (.int .i64 V)
    have y2 := y1.put 1 (.slice L6 N c66)
    have s1 := VW.out.set 0 (v := .int .i64 0) rfl (noW_i _) (.int .i64 V)
    have s2 := y1.set 1 (v := .slice none 0 0) rfl (noW_s _ _ _) (.slice L6 N c66)
    have B2 := Lib.hid ((BW.out.setCell (p := ⟨gv, 0, none⟩) HGV.out (.int .i64 V)).setCell (p := ⟨gv, 1, none⟩) HGV.out (.slice L6 N c66))
    have V2 := Lib.hid (show VB ((v7.setCell ⟨gv, 0, none⟩ (.int .i64 V)).setCell ⟨gv, 1, none⟩ (.slice L6 N c66)) gv #[.int .i64 V, .slice L6 N c66] 24 from y2)
    have O2 := Lib.hid (OW.out.chg CRw.chg (s1.trans s2) (by decide))
    clear x0 x1 f0 f1 y1 y2 s1 s2 OW BW VW
    generalize ((v7.setCell ⟨gv, 0, none⟩ (.int .i64 V)).setCell ⟨gv, 1, none⟩ (.slice L6 N c66)) = W9 at B2 V2 O2 ⊢
    have hb := B2.out
    replace J := Lib.hid (J.out.next hb)
    replace XC := Lib.hid (XC.out.next hb)
    replace RC := Lib.hid (RC.out.below hb)
    have RW := Lib.hid (own_rdL O2.out J.out.low)
    clear hb B2 O2 HGV
    have d0 := XC.out.c0
    have d1 := XC.out.c1
    have x0 := V2.out.c0
    have x1 := V2.out.c1
    go_wp2_with fail
    refine (refSysSame_t V LC N cC L6 c66 (ls ++ ls') _ RC.out RW.out (by have h1 := HNN.out; have h2 := HN5.out; omega) (fun i hi => lens_of (lnk_app HV.out.1 HV.out.2 (by rw [← HLL.out]; exact hi)))).mono ?_
    rintro e w6 ⟨rfl, hb⟩
    replace J := Lib.hid (J.out.next hb)
    replace XC := Lib.hid (XC.out.next hb)
    replace RC := Lib.hid (RC.out.below hb)
    clear hb d0 d1 x0 x1 V2 RW
    obtain ⟨T, hT⟩ := bound_join HI.out.1 HI.out.2.1 HI.out.2.2 HV.out.1 HV.out.2 (fun a b => HMS.out (by trivial) HV.out.1 a b) (fun a b => HMS2.out (by trivial) HV.out.2 a b)
    have HT := Lib.hid hT
    clear hT
    have HVS1 := Lib.hid HV.out.1
    have HVS2 := Lib.hid HV.out.2
    have HVS3 := Lib.hid (valid_app HV.out.1 HV.out.2 (by rw [HL.out.1, HL.out.2.1]; have := HN5.out; omega))
    by_cases qa : allB ns = true
    case neg =>
     have QA := Lib.hid (show allB ns = false by simpa using qa)
     clear qa
     have a0 := J.out.xa.c0
     have a1 := J.out.xa.c1
     go_wp2_with fail
     refine (sysHolds_c T V A n c ls X nx cx ns _ (HI.out.1.below J.out.low) (HI.out.2.2.below J.out.low) HN.out.2.2 (fun _ _ => HT.out.1)).mono ?_
     rintro e y1 hH
     obtain ⟨rfl, hb⟩ := hH.form (by rw [HVS1.out, QA.out]; rfl)
     replace J := Lib.hid (J.out.next hb)
     replace XC := Lib.hid (XC.out.next hb)
     replace RC := Lib.hid (RC.out.below hb)
     clear hb hH a0 a1
     have b0 := J.out.xb.c0
     have b1 := J.out.xb.c1
     go_wp2_with fail
     refine (sysHolds_c T V A' n' c' ls' X nx cx ns _ (HI.out.2.1.below J.out.low) (HI.out.2.2.below J.out.low) HN.out.2.2 (fun _ _ => HT.out.2.1)).mono ?_
     rintro e y2 hH
     obtain ⟨rfl, hb⟩ := hH.form (by rw [HVS2.out, QA.out]; rfl)
     replace J := Lib.hid (J.out.next hb)
     replace XC := Lib.hid (XC.out.next hb)
     replace RC := Lib.hid (RC.out.below hb)
     clear hb hH b0 b1
     have d0 := XC.out.c0
     have d1 := XC.out.c1
     go_wp2_with fail
     refine (sysHolds_c T V LC N cC (ls ++ ls') X nx cx ns _ RC.out (HI.out.2.2.below J.out.low) HN.out.2.2 (fun _ _ => HT.out.2.2.1)).mono ?_
     rintro e y3 hH
     obtain ⟨rfl, hb⟩ := hH.form (by rw [HVS3.out, QA.out]; rfl)
     replace J := Lib.hid (J.out.next hb)
     replace XC := Lib.hid (XC.out.next hb)
     replace RC := Lib.hid (RC.out.below hb)
     clear hb hH d0 d1
     go_wp2_with fail
     refine (awake9_c _).mono ?_
     rintro e w9 ⟨rfl, hb⟩
     have P := Lib.hid (J.out.low.trans (hb.mono J.out.low.size))
     clear hb
     go_wp2
     go_ret
     exact ⟨rfl, P.out⟩
    have QA := Lib.hid qa
    clear qa
    by_cases qb : (ns.length : Int) = V ∧ natB ns = true
    case neg =>
     have QB := Lib.hid (show ¬ (ns.length : Int) = V ∨ natB ns = false by
      by_cases q : (ns.length : Int) = V
      · exact .inr (by simpa [q] using qb)
      · exact .inl q)
     clear qb
     have a0 := J.out.xa.c0
     have a1 := J.out.xa.c1
     go_wp2_with fail
     refine (sysHolds_c T V A n c ls X nx cx ns _ (HI.out.1.below J.out.low) (HI.out.2.2.below J.out.low) HN.out.2.2 (fun _ _ => HT.out.1)).mono ?_
     rintro e y1 hH
     obtain ⟨rfl, hb⟩ := hH.arg (by rw [HVS1.out, QA.out]; rfl) QB.out
     replace J := Lib.hid (J.out.next hb)
     replace XC := Lib.hid (XC.out.next hb)
     replace RC := Lib.hid (RC.out.below hb)
     clear hb hH a0 a1
     have b0 := J.out.xb.c0
     have b1 := J.out.xb.c1
     go_wp2_with fail
     refine (sysHolds_c T V A' n' c' ls' X nx cx ns _ (HI.out.2.1.below J.out.low) (HI.out.2.2.below J.out.low) HN.out.2.2 (fun _ _ => HT.out.2.1)).mono ?_
     rintro e y2 hH
     obtain ⟨rfl, hb⟩ := hH.arg (by rw [HVS2.out, QA.out]; rfl) QB.out
     replace J := Lib.hid (J.out.next hb)
     replace XC := Lib.hid (XC.out.next hb)
     replace RC := Lib.hid (RC.out.below hb)
     clear hb hH b0 b1
     have d0 := XC.out.c0
     have d1 := XC.out.c1
     go_wp2_with fail
     refine (sysHolds_c T V LC N cC (ls ++ ls') X nx cx ns _ RC.out (HI.out.2.2.below J.out.low) HN.out.2.2 (fun _ _ => HT.out.2.2.1)).mono ?_
     rintro e y3 hH
     obtain ⟨rfl, hb⟩ := hH.arg (by rw [HVS3.out, QA.out]; rfl) QB.out
     replace J := Lib.hid (J.out.next hb)
     replace XC := Lib.hid (XC.out.next hb)
     replace RC := Lib.hid (RC.out.below hb)
     clear hb hH d0 d1
     go_wp2_with fail
     refine (awake9_c _).mono ?_
     rintro e w9 ⟨rfl, hb⟩
     have P := Lib.hid (J.out.low.trans (hb.mono J.out.low.size))
     clear hb
     go_wp2
     go_ret
     exact ⟨rfl, P.out⟩
    have QB := Lib.hid qb
    clear qb
    have a0 := J.out.xa.c0
    have a1 := J.out.xa.c1
    go_wp2_with fail
    refine (sysHolds_c T V A n c ls X nx cx ns _ (HI.out.1.below J.out.low) (HI.out.2.2.below J.out.low) HN.out.2.2 (fun _ _ => HT.out.1)).mono ?_
    rintro e y1 hH
    obtain ⟨r1, k1, rfl, hst, hr, hr2, hb⟩ := hH.val (by rw [HVS1.out, QA.out]; rfl) QB.out.1 QB.out.2
    obtain rfl : k1 = 0 := hst.resolve_right (fun z => by have h1 := z.2; rw [HT.out.2.2.2 (by rw [← HL.out.2.2]; exact QB.out.1) QA.out] at h1; have h2 := pw_600; omega)
    have HR1 := Lib.hid (hr rfl)
    clear hst hr hr2
    replace J := Lib.hid (J.out.next hb)
    replace XC := Lib.hid (XC.out.next hb)
    replace RC := Lib.hid (RC.out.below hb)
    clear hb hH a0 a1
    have b0 := J.out.xb.c0
    have b1 := J.out.xb.c1
    go_wp2_with fail
    refine (sysHolds_c T V A' n' c' ls' X nx cx ns _ (HI.out.2.1.below J.out.low) (HI.out.2.2.below J.out.low) HN.out.2.2 (fun _ _ => HT.out.2.1)).mono ?_
    rintro e y2 hH
    obtain ⟨r2, k2, rfl, hst, hr, hr2, hb⟩ := hH.val (by rw [HVS2.out, QA.out]; rfl) QB.out.1 QB.out.2
    obtain rfl : k2 = 0 := hst.resolve_right (fun z => by have h1 := z.2; rw [HT.out.2.2.2 (by rw [← HL.out.2.2]; exact QB.out.1) QA.out] at h1; have h2 := pw_600; omega)
    have HR2 := Lib.hid (hr rfl)
    clear hst hr hr2
    replace J := Lib.hid (J.out.next hb)
    replace XC := Lib.hid (XC.out.next hb)
    replace RC := Lib.hid (RC.out.below hb)
    clear hb hH b0 b1
    have d0 := XC.out.c0
    have d1 := XC.out.c1
    go_wp2_with fail
    refine (sysHolds_c T V LC N cC (ls ++ ls') X nx cx ns _ RC.out (HI.out.2.2.below J.out.low) HN.out.2.2 (fun _ _ => HT.out.2.2.1)).mono ?_
    rintro e y3 hH
    obtain ⟨r3, k3, rfl, hst, hr, hr2, hb⟩ := hH.val (by rw [HVS3.out, QA.out]; rfl) QB.out.1 QB.out.2
    obtain rfl : k3 = 0 := hst.resolve_right (fun z => by have h1 := z.2; rw [HT.out.2.2.2 (by rw [← HL.out.2.2]; exact QB.out.1) QA.out] at h1; have h2 := pw_600; omega)
    have HR3 := Lib.hid (hr rfl)
    clear hst hr hr2
    replace J := Lib.hid (J.out.next hb)
    replace XC := Lib.hid (XC.out.next hb)
    replace RC := Lib.hid (RC.out.below hb)
    clear hb hH d0 d1
    have HR4 := Lib.hid (show r3 = (r1 && r2) by rw [HR1.out, HR2.out, HR3.out, holds_app])
    have hr4 := HR4.out
    subst hr4
    clear HR1 HR2 HR3 HR4
    cases r1 with
    | false =>
      cases r2 with
      | false =>
        go_wp2_with fail
        refine (awake9_c _).mono ?_
        rintro e w9 ⟨rfl, hb⟩
        have P := Lib.hid (J.out.low.trans (hb.mono J.out.low.size))
        clear hb
        go_wp2
        go_ret
        exact ⟨rfl, P.out⟩
      | true =>
        go_wp2_with fail
        refine (awake9_c _).mono ?_
        rintro e w9 ⟨rfl, hb⟩
        have P := Lib.hid (J.out.low.trans (hb.mono J.out.low.size))
        clear hb
        go_wp2
        go_ret
        exact ⟨rfl, P.out⟩
    | true =>
      cases r2 with
      | false =>
        go_wp2_with fail
        refine (awake9_c _).mono ?_
        rintro e w9 ⟨rfl, hb⟩
        have P := Lib.hid (J.out.low.trans (hb.mono J.out.low.size))
        clear hb
        go_wp2
        go_ret
        exact ⟨rfl, P.out⟩
      | true =>
        go_wp2_with fail
        refine (awake9_c _).mono ?_
        rintro e w9 ⟨rfl, hb⟩
        have P := Lib.hid (J.out.low.trans (hb.mono J.out.low.size))
        clear hb
        go_wp2
        go_ret
        exact ⟨rfl, P.out⟩
   exact AllReadyH.nil
  refine AllReadyH.cons rfl (fun K hK => ?_) ?_
  ·
   go_simp
   have hb := bel_alloc v2 (boxS 0 none 0 0)
   have VW := Lib.hid (VB.new v2 #[.int .i64 0, .slice none 0 0] 24)
   have HGV := Lib.hid BW.out.size
   replace BW := Lib.hid (BW.out.trans (hb.mono BW.out.size))
   replace OW := Lib.hid (OW.out.keep (CRw.chg) hb)
   clear hb hHeld
   generalize v2.alloc (boxS 0 none 0 0) = v8 at BW OW VW ⊢
   generalize v2.heap.size = gv at VW HGV ⊢
   refine hK.out _ _ (⟨(J.out.next BW.out).xa.c0, (J.out.next BW.out).xa.c1, (J.out.next BW.out).xb.c1⟩) (fun hHeld => ?_)
   clear hK K
   refine wpAnyH_ready (rs := [5]) (by kernel_rfl) (by simp) ?_
   refine AllReadyH.cons rfl (fun K hK => ?_) AllReadyH.nil
   refine step_app_K rfl (.tmp 70) (.tmp 72) rfl A n c ls rfl rfl OW.out BW.out.size HI.out.1 (J.out.next BW.out).low (by have := HN5.out; omega) (by have := HN5.out; omega) ?_
   intro L5 c55 v9 h1 hb hch
   rw [Nat.zero_add, List.nil_append] at h1
   try rw [Nat.zero_add n]
   replace OW := Lib.hid h1
   replace BW := Lib.hid (BW.out.trans hb)
   replace VW := Lib.hid (VW.out.chg hch (by decide))
   clear h1 hb hch hHeld
   refine hK.out _ _ (⟨(J.out.next BW.out).xa.c0, (J.out.next BW.out).xa.c1, (J.out.next BW.out).xb.c1⟩) (fun hHeld => ?_)
   clear hK K
   refine wpAnyH_ready (rs := [8]) (by kernel_rfl) (by simp) ?_
   refine AllReadyH.cons rfl (fun K hK => ?_) AllReadyH.nil
   refine step_app_K rfl (.tmp 73) (.tmp 75) rfl A' n' c' ls' rfl rfl OW.out BW.out.size HI.out.2.1 (J.out.next BW.out).low (by have := HN5.out; omega) (by have := HN5.out; omega) ?_
   intro L6 c66 v10 h1 hb hch
   replace OW := Lib.hid h1
   replace BW := Lib.hid (BW.out.trans hb)
   replace VW := Lib.hid (VW.out.chg hch (by decide))
   clear h1 hb hch hHeld
   refine hK.out _ _ (⟨(J.out.next BW.out).xa.c0, (J.out.next BW.out).xa.c1, (J.out.next BW.out).xb.c1⟩) (fun hHeld => ?_)
   clear hK K
   refine tkk 9 77 rfl rfl (by kernel_rfl) (hP · · _) (by rfl) (fun w h => by obtain ⟨h0, h1, h2⟩ := h; go_simp; rfl) (by assumption) ?_
   clear hHeld
   refine wpAnyH_done (by kernel_rfl) ?_ _
   refine HT.out _ _ ?_
   clear HT hP QT
   rw [show n + n' = N from HNN.out.symm] at OW ⊢
   have x0 := VW.out.c0
   have x1 := VW.out.c1
   have f0 := VW.out.fr 0
   have f1 := VW.out.fr 1
   refine wpList_step fun K hK => ?_
   go_simp
   refine hK _ _ ?_
   clear hK K
   refine wpList_nil ?_
   have y1 := VW.out.put 0 (.int .i64 V)
   have y2 := y1.put 1 (.slice L6 N c66)
   have s1 := VW.out.set 0 (v := .int .i64 0) rfl (noW_i _) (.int .i64 V)
   have s2 := y1.set 1 (v := .slice none 0 0) rfl (noW_s _ _ _) (.slice L6 N c66)
   have B2 := Lib.hid ((BW.out.setCell (p := ⟨gv, 0, none⟩) HGV.out (.int .i64 V)).setCell (p := ⟨gv, 1, none⟩) HGV.out (.slice L6 N c66))
   have V2 := Lib.hid (show VB ((v10.setCell ⟨gv, 0, none⟩ (.int .i64 V)).setCell ⟨gv, 1, none⟩ (.slice L6 N c66)) gv #[.int .i64 V, .slice L6 N c66] 24 from y2)
   have O2 := Lib.hid (OW.out.chg CRw.chg (s1.trans s2) (by decide))
   clear x0 x1 f0 f1 y1 y2 s1 s2 OW BW VW
   generalize ((v10.setCell ⟨gv, 0, none⟩ (.int .i64 V)).setCell ⟨gv, 1, none⟩ (.slice L6 N c66)) = W9 at B2 V2 O2 ⊢
   have hb := B2.out
   replace J := Lib.hid (J.out.next hb)
   replace XC := Lib.hid (XC.out.next hb)
   replace RC := Lib.hid (RC.out.below hb)
   have RW := Lib.hid (own_rdL O2.out J.out.low)
   clear hb B2 O2 HGV
   have d0 := XC.out.c0
   have d1 := XC.out.c1
   have x0 := V2.out.c0
   have x1 := V2.out.c1
   go_wp2_with fail
   refine (refSysSame_t V LC N cC L6 c66 (ls ++ ls') _ RC.out RW.out (by have h1 := HNN.out; have h2 := HN5.out; omega) (fun i hi => lens_of (lnk_app HV.out.1 HV.out.2 (by rw [← HLL.out]; exact hi)))).mono ?_
   rintro e w6 ⟨rfl, hb⟩
   replace J := Lib.hid (J.out.next hb)
   replace XC := Lib.hid (XC.out.next hb)
   replace RC := Lib.hid (RC.out.below hb)
   clear hb d0 d1 x0 x1 V2 RW
   obtain ⟨T, hT⟩ := bound_join HI.out.1 HI.out.2.1 HI.out.2.2 HV.out.1 HV.out.2 (fun a b => HMS.out (by trivial) HV.out.1 a b) (fun a b => HMS2.out (by trivial) HV.out.2 a b)
   have HT := Lib.hid hT
   clear hT
   have HVS1 := Lib.hid HV.out.1
   have HVS2 := Lib.hid HV.out.2
   have HVS3 := Lib.hid (valid_app HV.out.1 HV.out.2 (by rw [HL.out.1, HL.out.2.1]; have := HN5.out; omega))
   by_cases qa : allB ns = true
   case neg =>
    have QA := Lib.hid (show allB ns = false by simpa using qa)
    clear qa
    have a0 := J.out.xa.c0
    have a1 := J.out.xa.c1
    go_wp2_with fail
    refine (sysHolds_c T V A n c ls X nx cx ns _ (HI.out.1.below J.out.low) (HI.out.2.2.below J.out.low) HN.out.2.2 (fun _ _ => HT.out.1)).mono ?_
    rintro e y1 hH
    obtain ⟨rfl, hb⟩ := hH.form (by rw [HVS1.out, QA.out]; rfl)
    replace J := Lib.hid (J.out.next hb)
    replace XC := Lib.hid (XC.out.next hb)
    replace RC := Lib.hid (RC.out.below hb)
    clear hb hH a0 a1
    have b0 := J.out.xb.c0
    have b1 := J.out.xb.c1
    go_wp2_with fail
    refine (sysHolds_c T V A' n' c' ls' X nx cx ns _ (HI.out.2.1.below J.out.low) (HI.out.2.2.below J.out.low) HN.out.2.2 (fun _ _ => HT.out.2.1)).mono ?_
    rintro e y2 hH
    obtain ⟨rfl, hb⟩ := hH.form (by rw [HVS2.out, QA.out]; rfl)
    replace J := Lib.hid (J.out.next hb)
    replace XC := Lib.hid (XC.out.next hb)
    replace RC := Lib.hid (RC.out.below hb)
    clear hb hH b0 b1
    have d0 := XC.out.c0
    have d1 := XC.out.c1
    go_wp2_with fail
    refine (sysHolds_c T V LC N cC (ls ++ ls') X nx cx ns _ RC.out (HI.out.2.2.below J.out.low) HN.out.2.2 (fun _ _ => HT.out.2.2.1)).mono ?_
    rintro e y3 hH
    obtain ⟨rfl, hb⟩ := hH.form (by rw [HVS3.out, QA.out]; rfl)
    replace J := Lib.hid (J.out.next hb)
    replace XC := Lib.hid (XC.out.next hb)
    replace RC := Lib.hid (RC.out.below hb)
    clear hb hH d0 d1
    go_wp2_with fail
    refine (awake9_c _).mono ?_
    rintro e w9 ⟨rfl, hb⟩
    have P := Lib.hid (J.out.low.trans (hb.mono J.out.low.size))
    clear hb
    go_wp2
    go_ret
    exact ⟨rfl, P.out⟩
   have QA := Lib.hid qa
   clear qa
   by_cases qb : (ns.length : Int) = V ∧ natB ns = true
   case neg =>
    have QB := Lib.hid (show ¬ (ns.length : Int) = V ∨ natB ns = false by
     by_cases q : (ns.length : Int) = V
     · exact .inr (by simpa [q] using qb)
     · exact .inl q)
    clear qb
    have a0 := J.out.xa.c0
    have a1 := J.out.xa.c1
    go_wp2_with fail
    refine (sysHolds_c T V A n c ls X nx cx ns _ (HI.out.1.below J.out.low) (HI.out.2.2.below J.out.low) HN.out.2.2 (fun _ _ => HT.out.1)).mono ?_
    rintro e y1 hH
    obtain ⟨rfl, hb⟩ := hH.arg (by rw [HVS1.out, QA.out]; rfl) QB.out
    replace J := Lib.hid (J.out.next hb)
    replace XC := Lib.hid (XC.out.next hb)
    replace RC := Lib.hid (RC.out.below hb)
    clear hb hH a0 a1
    have b0 := J.out.xb.c0
    have b1 := J.out.xb.c1
    go_wp2_with fail
    refine (sysHolds_c T V A' n' c' ls' X nx cx ns _ (HI.out.2.1.below J.out.low) (HI.out.2.2.below J.out.low) HN.out.2.2 (fun _ _ => HT.out.2.1)).mono ?_
    rintro e y2 hH
    obtain ⟨rfl, hb⟩ := hH.arg (by rw [HVS2.out, QA.out]; rfl) QB.out
    replace J := Lib.hid (J.out.next hb)
    replace XC := Lib.hid (XC.out.next hb)
    replace RC := Lib.hid (RC.out.below hb)
    clear hb hH b0 b1
    have d0 := XC.out.c0
    have d1 := XC.out.c1
    go_wp2_with fail
    refine (sysHolds_c T V LC N cC (ls ++ ls') X nx cx ns _ RC.out (HI.out.2.2.below J.out.low) HN.out.2.2 (fun _ _ => HT.out.2.2.1)).mono ?_
    rintro e y3 hH
    obtain ⟨rfl, hb⟩ := hH.arg (by rw [HVS3.out, QA.out]; rfl) QB.out
    replace J := Lib.hid (J.out.next hb)
    replace XC := Lib.hid (XC.out.next hb)
    replace RC := Lib.hid (RC.out.below hb)
    clear hb hH d0 d1
    go_wp2_with fail
    refine (awake9_c _).mono ?_
    rintro e w9 ⟨rfl, hb⟩
    have P := Lib.hid (J.out.low.trans (hb.mono J.out.low.size))
    clear hb
    go_wp2
    go_ret
    exact ⟨rfl, P.out⟩
   have QB := Lib.hid qb
   clear qb
   have a0 := J.out.xa.c0
   have a1 := J.out.xa.c1
   go_wp2_with fail
   refine (sysHolds_c T V A n c ls X nx cx ns _ (HI.out.1.below J.out.low) (HI.out.2.2.below J.out.low) HN.out.2.2 (fun _ _ => HT.out.1)).mono ?_
   rintro e y1 hH
   obtain ⟨r1, k1, rfl, hst, hr, hr2, hb⟩ := hH.val (by rw [HVS1.out, QA.out]; rfl) QB.out.1 QB.out.2
   obtain rfl : k1 = 0 := hst.resolve_right (fun z => by have h1 := z.2; rw [HT.out.2.2.2 (by rw [← HL.out.2.2]; exact QB.out.1) QA.out] at h1; have h2 := pw_600; omega)
   have HR1 := Lib.hid (hr rfl)
   clear hst hr hr2
   replace J := Lib.hid (J.out.next hb)
   replace XC := Lib.hid (XC.out.next hb)
   replace RC := Lib.hid (RC.out.below hb)
   clear hb hH a0 a1
   have b0 := J.out.xb.c0
   have b1 := J.out.xb.c1
   go_wp2_with fail
   refine (sysHolds_c T V A' n' c' ls' X nx cx ns _ (HI.out.2.1.below J.out.low) (HI.out.2.2.below J.out.low) HN.out.2.2 (fun _ _ => HT.out.2.1)).mono ?_
   rintro e y2 hH
   obtain ⟨r2, k2, rfl, hst, hr, hr2, hb⟩ := hH.val (by rw [HVS2.out, QA.out]; rfl) QB.out.1 QB.out.2
   obtain rfl : k2 = 0 := hst.resolve_right (fun z => by have h1 := z.2; rw [HT.out.2.2.2 (by rw [← HL.out.2.2]; exact QB.out.1) QA.out] at h1; have h2 := pw_600; omega)
   have HR2 := Lib.hid (hr rfl)
   clear hst hr hr2
   replace J := Lib.hid (J.out.next hb)
   replace XC := Lib.hid (XC.out.next hb)
   replace RC := Lib.hid (RC.out.below hb)
   clear hb hH b0 b1
   have d0 := XC.out.c0
   have d1 := XC.out.c1
   go_wp2_with fail
   refine (sysHolds_c T V LC N cC (ls ++ ls') X nx cx ns _ RC.out (HI.out.2.2.below J.out.low) HN.out.2.2 (fun _ _ => HT.out.2.2.1)).mono ?_
   rintro e y3 hH
   obtain ⟨r3, k3, rfl, hst, hr, hr2, hb⟩ := hH.val (by rw [HVS3.out, QA.out]; rfl) QB.out.1 QB.out.2
   obtain rfl : k3 = 0 := hst.resolve_right (fun z => by have h1 := z.2; rw [HT.out.2.2.2 (by rw [← HL.out.2.2]; exact QB.out.1) QA.out] at h1; have h2 := pw_600; omega)
   have HR3 := Lib.hid (hr rfl)
   clear hst hr hr2
   replace J := Lib.hid (J.out.next hb)
   replace XC := Lib.hid (XC.out.next hb)
   replace RC := Lib.hid (RC.out.below hb)
   clear hb hH d0 d1
   have HR4 := Lib.hid (show r3 = (r1 && r2) by rw [HR1.out, HR2.out, HR3.out, holds_app])
   have hr4 := HR4.out
   subst hr4
   clear HR1 HR2 HR3 HR4
   cases r1 with
   | false =>
     cases r2 with
     | false =>
       go_wp2_with fail
       refine (awake9_c _).mono ?_
       rintro e w9 ⟨rfl, hb⟩
       have P := Lib.hid (J.out.low.trans (hb.mono J.out.low.size))
       clear hb
       go_wp2
       go_ret
       exact ⟨rfl, P.out⟩
     | true =>
       go_wp2_with fail
       refine (awake9_c _).mono ?_
       rintro e w9 ⟨rfl, hb⟩
       have P := Lib.hid (J.out.low.trans (hb.mono J.out.low.size))
       clear hb
       go_wp2
       go_ret
       exact ⟨rfl, P.out⟩
   | true =>
     cases r2 with
     | false =>
       go_wp2_with fail
       refine (awake9_c _).mono ?_
       rintro e w9 ⟨rfl, hb⟩
       have P := Lib.hid (J.out.low.trans (hb.mono J.out.low.size))
       clear hb
       go_wp2
       go_ret
       exact ⟨rfl, P.out⟩
     | true =>
       go_wp2_with fail
       refine (awake9_c _).mono ?_
       rintro e w9 ⟨rfl, hb⟩
       have P := Lib.hid (J.out.low.trans (hb.mono J.out.low.size))
       clear hb
       go_wp2
       go_ret
       exact ⟨rfl, P.out⟩
  exact AllReadyH.nil
 refine AllReadyH.cons rfl (fun K hK => ?_) ?_
 ·
  go_simp
  have hb := bel_alloc D1 (boxS 0 none 0 0)
  have VW := Lib.hid (VB.new D1 #[.int .i64 0, .slice none 0 0] 24)
  have HGV := Lib.hid BW.out.size
  replace BW := Lib.hid (BW.out.trans (hb.mono BW.out.size))
  clear hb hHeld
  generalize D1.alloc (boxS 0 none 0 0) = v11 at BW VW ⊢
  generalize D1.heap.size = gv at VW HGV ⊢
  refine hK.out _ _ (⟨(J.out.next BW.out).xa.c0, (J.out.next BW.out).xa.c1, (J.out.next BW.out).xb.c1⟩) (fun hHeld => ?_)
  clear hK K
  refine wpAnyH_ready (rs := [2]) (by kernel_rfl) (by simp) ?_
  refine AllReadyH.cons rfl (fun K hK => ?_) AllReadyH.nil
  go_simp
  have hb := bel_alloc v11 (.cells #[] 51)
  have OW := Lib.hid (own_made9 (C := CRw w) (sz := 3) v11 51 W8.heap.size BW.out.size)
  replace BW := Lib.hid (BW.out.trans (hb.mono BW.out.size))
  replace VW := Lib.hid (VW.out.next hb)
  clear hb hHeld
  generalize v11.alloc (.cells #[] 51) = v12 at BW VW OW ⊢
  generalize v11.heap.size = gw at OW ⊢
  refine hK.out _ _ (⟨(J.out.next BW.out).xa.c0, (J.out.next BW.out).xa.c1, (J.out.next BW.out).xb.c1⟩) (fun hHeld => ?_)
  clear hK K
  refine wpAnyH_ready (rs := [5]) (by kernel_rfl) (by simp) ?_
  refine AllReadyH.cons rfl (fun K hK => ?_) AllReadyH.nil
  refine step_app_K rfl (.tmp 70) (.tmp 72) rfl A n c ls rfl rfl OW.out BW.out.size HI.out.1 (J.out.next BW.out).low (by have := HN5.out; omega) (by have := HN5.out; omega) ?_
  intro L5 c55 v13 h1 hb hch
  rw [Nat.zero_add, List.nil_append] at h1
  try rw [Nat.zero_add n]
  replace OW := Lib.hid h1
  replace BW := Lib.hid (BW.out.trans hb)
  replace VW := Lib.hid (VW.out.chg hch (by decide))
  clear h1 hb hch hHeld
  refine hK.out _ _ (⟨(J.out.next BW.out).xa.c0, (J.out.next BW.out).xa.c1, (J.out.next BW.out).xb.c1⟩) (fun hHeld => ?_)
  clear hK K
  refine wpAnyH_ready (rs := [8]) (by kernel_rfl) (by simp) ?_
  refine AllReadyH.cons rfl (fun K hK => ?_) AllReadyH.nil
  refine step_app_K rfl (.tmp 73) (.tmp 75) rfl A' n' c' ls' rfl rfl OW.out BW.out.size HI.out.2.1 (J.out.next BW.out).low (by have := HN5.out; omega) (by have := HN5.out; omega) ?_
  intro L6 c66 v14 h1 hb hch
  replace OW := Lib.hid h1
  replace BW := Lib.hid (BW.out.trans hb)
  replace VW := Lib.hid (VW.out.chg hch (by decide))
  clear h1 hb hch hHeld
  refine hK.out _ _ (⟨(J.out.next BW.out).xa.c0, (J.out.next BW.out).xa.c1, (J.out.next BW.out).xb.c1⟩) (fun hHeld => ?_)
  clear hK K
  refine tkk 9 77 rfl rfl (by kernel_rfl) (hP · · _) (by rfl) (fun w h => by obtain ⟨h0, h1, h2⟩ := h; go_simp; rfl) (by assumption) ?_
  clear hHeld
  refine wpAnyH_done (by kernel_rfl) ?_ _
  refine HT.out _ _ ?_
  clear HT hP QT
  rw [show n + n' = N from HNN.out.symm] at OW ⊢
  have x0 := VW.out.c0
  have x1 := VW.out.c1
  have f0 := VW.out.fr 0
  have f1 := VW.out.fr 1
  refine wpList_step fun K hK => ?_
  go_simp
  refine hK _ _ ?_
  clear hK K
  refine wpList_nil ?_
  have y1 := VW.out.put 0 (.int .i64 V)
  have y2 := y1.put 1 (.slice L6 N c66)
  have s1 := VW.out.set 0 (v := .int .i64 0) rfl (noW_i _) (.int .i64 V)
  have s2 := y1.set 1 (v := .slice none 0 0) rfl (noW_s _ _ _) (.slice L6 N c66)
  have B2 := Lib.hid ((BW.out.setCell (p := ⟨gv, 0, none⟩) HGV.out (.int .i64 V)).setCell (p := ⟨gv, 1, none⟩) HGV.out (.slice L6 N c66))
  have V2 := Lib.hid (show VB ((v14.setCell ⟨gv, 0, none⟩ (.int .i64 V)).setCell ⟨gv, 1, none⟩ (.slice L6 N c66)) gv #[.int .i64 V, .slice L6 N c66] 24 from y2)
  have O2 := Lib.hid (OW.out.chg CRw.chg (s1.trans s2) (by decide))
  clear x0 x1 f0 f1 y1 y2 s1 s2 OW BW VW
  generalize ((v14.setCell ⟨gv, 0, none⟩ (.int .i64 V)).setCell ⟨gv, 1, none⟩ (.slice L6 N c66)) = W9 at B2 V2 O2 ⊢
  have hb := B2.out
  replace J := Lib.hid (J.out.next hb)
  replace XC := Lib.hid (XC.out.next hb)
  replace RC := Lib.hid (RC.out.below hb)
  have RW := Lib.hid (own_rdL O2.out J.out.low)
  clear hb B2 O2 HGV
  have d0 := XC.out.c0
  have d1 := XC.out.c1
  have x0 := V2.out.c0
  have x1 := V2.out.c1
  go_wp2_with fail
  refine (refSysSame_t V LC N cC L6 c66 (ls ++ ls') _ RC.out RW.out (by have h1 := HNN.out; have h2 := HN5.out; omega) (fun i hi => lens_of (lnk_app HV.out.1 HV.out.2 (by rw [← HLL.out]; exact hi)))).mono ?_
  rintro e w6 ⟨rfl, hb⟩
  replace J := Lib.hid (J.out.next hb)
  replace XC := Lib.hid (XC.out.next hb)
  replace RC := Lib.hid (RC.out.below hb)
  clear hb d0 d1 x0 x1 V2 RW
  obtain ⟨T, hT⟩ := bound_join HI.out.1 HI.out.2.1 HI.out.2.2 HV.out.1 HV.out.2 (fun a b => HMS.out (by trivial) HV.out.1 a b) (fun a b => HMS2.out (by trivial) HV.out.2 a b)
  have HT := Lib.hid hT
  clear hT
  have HVS1 := Lib.hid HV.out.1
  have HVS2 := Lib.hid HV.out.2
  have HVS3 := Lib.hid (valid_app HV.out.1 HV.out.2 (by rw [HL.out.1, HL.out.2.1]; have := HN5.out; omega))
  by_cases qa : allB ns = true
  case neg =>
   have QA := Lib.hid (show allB ns = false by simpa using qa)
   clear qa
   have a0 := J.out.xa.c0
   have a1 := J.out.xa.c1
   go_wp2_with fail
   refine (sysHolds_c T V A n c ls X nx cx ns _ (HI.out.1.below J.out.low) (HI.out.2.2.below J.out.low) HN.out.2.2 (fun _ _ => HT.out.1)).mono ?_
   rintro e y1 hH
   obtain ⟨rfl, hb⟩ := hH.form (by rw [HVS1.out, QA.out]; rfl)
   replace J := Lib.hid (J.out.next hb)
   replace XC := Lib.hid (XC.out.next hb)
   replace RC := Lib.hid (RC.out.below hb)
   clear hb hH a0 a1
   have b0 := J.out.xb.c0
   have b1 := J.out.xb.c1
   go_wp2_with fail
   refine (sysHolds_c T V A' n' c' ls' X nx cx ns _ (HI.out.2.1.below J.out.low) (HI.out.2.2.below J.out.low) HN.out.2.2 (fun _ _ => HT.out.2.1)).mono ?_
   rintro e y2 hH
   obtain ⟨rfl, hb⟩ := hH.form (by rw [HVS2.out, QA.out]; rfl)
   replace J := Lib.hid (J.out.next hb)
   replace XC := Lib.hid (XC.out.next hb)
   replace RC := Lib.hid (RC.out.below hb)
   clear hb hH b0 b1
   have d0 := XC.out.c0
   have d1 := XC.out.c1
   go_wp2_with fail
   refine (sysHolds_c T V LC N cC (ls ++ ls') X nx cx ns _ RC.out (HI.out.2.2.below J.out.low) HN.out.2.2 (fun _ _ => HT.out.2.2.1)).mono ?_
   rintro e y3 hH
   obtain ⟨rfl, hb⟩ := hH.form (by rw [HVS3.out, QA.out]; rfl)
   replace J := Lib.hid (J.out.next hb)
   replace XC := Lib.hid (XC.out.next hb)
   replace RC := Lib.hid (RC.out.below hb)
   clear hb hH d0 d1
   go_wp2_with fail
   refine (awake9_c _).mono ?_
   rintro e w9 ⟨rfl, hb⟩
   have P := Lib.hid (J.out.low.trans (hb.mono J.out.low.size))
   clear hb
   go_wp2
   go_ret
   exact ⟨rfl, P.out⟩
  have QA := Lib.hid qa
  clear qa
  by_cases qb : (ns.length : Int) = V ∧ natB ns = true
  case neg =>
   have QB := Lib.hid (show ¬ (ns.length : Int) = V ∨ natB ns = false by
    by_cases q : (ns.length : Int) = V
    · exact .inr (by simpa [q] using qb)
    · exact .inl q)
   clear qb
   have a0 := J.out.xa.c0
   have a1 := J.out.xa.c1
   go_wp2_with fail
   refine (sysHolds_c T V A n c ls X nx cx ns _ (HI.out.1.below J.out.low) (HI.out.2.2.below J.out.low) HN.out.2.2 (fun _ _ => HT.out.1)).mono ?_
   rintro e y1 hH
   obtain ⟨rfl, hb⟩ := hH.arg (by rw [HVS1.out, QA.out]; rfl) QB.out
   replace J := Lib.hid (J.out.next hb)
   replace XC := Lib.hid (XC.out.next hb)
   replace RC := Lib.hid (RC.out.below hb)
   clear hb hH a0 a1
   have b0 := J.out.xb.c0
   have b1 := J.out.xb.c1
   go_wp2_with fail
   refine (sysHolds_c T V A' n' c' ls' X nx cx ns _ (HI.out.2.1.below J.out.low) (HI.out.2.2.below J.out.low) HN.out.2.2 (fun _ _ => HT.out.2.1)).mono ?_
   rintro e y2 hH
   obtain ⟨rfl, hb⟩ := hH.arg (by rw [HVS2.out, QA.out]; rfl) QB.out
   replace J := Lib.hid (J.out.next hb)
   replace XC := Lib.hid (XC.out.next hb)
   replace RC := Lib.hid (RC.out.below hb)
   clear hb hH b0 b1
   have d0 := XC.out.c0
   have d1 := XC.out.c1
   go_wp2_with fail
   refine (sysHolds_c T V LC N cC (ls ++ ls') X nx cx ns _ RC.out (HI.out.2.2.below J.out.low) HN.out.2.2 (fun _ _ => HT.out.2.2.1)).mono ?_
   rintro e y3 hH
   obtain ⟨rfl, hb⟩ := hH.arg (by rw [HVS3.out, QA.out]; rfl) QB.out
   replace J := Lib.hid (J.out.next hb)
   replace XC := Lib.hid (XC.out.next hb)
   replace RC := Lib.hid (RC.out.below hb)
   clear hb hH d0 d1
   go_wp2_with fail
   refine (awake9_c _).mono ?_
   rintro e w9 ⟨rfl, hb⟩
   have P := Lib.hid (J.out.low.trans (hb.mono J.out.low.size))
   clear hb
   go_wp2
   go_ret
   exact ⟨rfl, P.out⟩
  have QB := Lib.hid qb
  clear qb
  have a0 := J.out.xa.c0
  have a1 := J.out.xa.c1
  go_wp2_with fail
  refine (sysHolds_c T V A n c ls X nx cx ns _ (HI.out.1.below J.out.low) (HI.out.2.2.below J.out.low) HN.out.2.2 (fun _ _ => HT.out.1)).mono ?_
  rintro e y1 hH
  obtain ⟨r1, k1, rfl, hst, hr, hr2, hb⟩ := hH.val (by rw [HVS1.out, QA.out]; rfl) QB.out.1 QB.out.2
  obtain rfl : k1 = 0 := hst.resolve_right (fun z => by have h1 := z.2; rw [HT.out.2.2.2 (by rw [← HL.out.2.2]; exact QB.out.1) QA.out] at h1; have h2 := pw_600; omega)
  have HR1 := Lib.hid (hr rfl)
  clear hst hr hr2
  replace J := Lib.hid (J.out.next hb)
  replace XC := Lib.hid (XC.out.next hb)
  replace RC := Lib.hid (RC.out.below hb)
  clear hb hH a0 a1
  have b0 := J.out.xb.c0
  have b1 := J.out.xb.c1
  go_wp2_with fail
  refine (sysHolds_c T V A' n' c' ls' X nx cx ns _ (HI.out.2.1.below J.out.low) (HI.out.2.2.below J.out.low) HN.out.2.2 (fun _ _ => HT.out.2.1)).mono ?_
  rintro e y2 hH
  obtain ⟨r2, k2, rfl, hst, hr, hr2, hb⟩ := hH.val (by rw [HVS2.out, QA.out]; rfl) QB.out.1 QB.out.2
  obtain rfl : k2 = 0 := hst.resolve_right (fun z => by have h1 := z.2; rw [HT.out.2.2.2 (by rw [← HL.out.2.2]; exact QB.out.1) QA.out] at h1; have h2 := pw_600; omega)
  have HR2 := Lib.hid (hr rfl)
  clear hst hr hr2
  replace J := Lib.hid (J.out.next hb)
  replace XC := Lib.hid (XC.out.next hb)
  replace RC := Lib.hid (RC.out.below hb)
  clear hb hH b0 b1
  have d0 := XC.out.c0
  have d1 := XC.out.c1
  go_wp2_with fail
  refine (sysHolds_c T V LC N cC (ls ++ ls') X nx cx ns _ RC.out (HI.out.2.2.below J.out.low) HN.out.2.2 (fun _ _ => HT.out.2.2.1)).mono ?_
  rintro e y3 hH
  obtain ⟨r3, k3, rfl, hst, hr, hr2, hb⟩ := hH.val (by rw [HVS3.out, QA.out]; rfl) QB.out.1 QB.out.2
  obtain rfl : k3 = 0 := hst.resolve_right (fun z => by have h1 := z.2; rw [HT.out.2.2.2 (by rw [← HL.out.2.2]; exact QB.out.1) QA.out] at h1; have h2 := pw_600; omega)
  have HR3 := Lib.hid (hr rfl)
  clear hst hr hr2
  replace J := Lib.hid (J.out.next hb)
  replace XC := Lib.hid (XC.out.next hb)
  replace RC := Lib.hid (RC.out.below hb)
  clear hb hH d0 d1
  have HR4 := Lib.hid (show r3 = (r1 && r2) by rw [HR1.out, HR2.out, HR3.out, holds_app])
  have hr4 := HR4.out
  subst hr4
  clear HR1 HR2 HR3 HR4
  cases r1 with
  | false =>
    cases r2 with
    | false =>
      go_wp2_with fail
      refine (awake9_c _).mono ?_
      rintro e w9 ⟨rfl, hb⟩
      have P := Lib.hid (J.out.low.trans (hb.mono J.out.low.size))
      clear hb
      go_wp2
      go_ret
      exact ⟨rfl, P.out⟩
    | true =>
      go_wp2_with fail
      refine (awake9_c _).mono ?_
      rintro e w9 ⟨rfl, hb⟩
      have P := Lib.hid (J.out.low.trans (hb.mono J.out.low.size))
      clear hb
      go_wp2
      go_ret
      exact ⟨rfl, P.out⟩
  | true =>
    cases r2 with
    | false =>
      go_wp2_with fail
      refine (awake9_c _).mono ?_
      rintro e w9 ⟨rfl, hb⟩
      have P := Lib.hid (J.out.low.trans (hb.mono J.out.low.size))
      clear hb
      go_wp2
      go_ret
      exact ⟨rfl, P.out⟩
    | true =>
      go_wp2_with fail
      refine (awake9_c _).mono ?_
      rintro e w9 ⟨rfl, hb⟩
      have P := Lib.hid (J.out.low.trans (hb.mono J.out.low.size))
      clear hb
      go_wp2
      go_ret
      exact ⟨rfl, P.out⟩
 exact AllReadyH.nil
end Go.Proofs.YteabokkofoomkaaGreat

import Derived.Test.YteabokkofoomkaaCao
import Derived.Test.YteabokkofoomkaaCbh
import Derived.Test.YteabokkofoomkaaCbl
import Derived.Deep.DeepCutAuto
set_option maxRecDepth 100000
namespace Go.Proofs.Yteabokkofoomkaa
open Go.RowKit Go.Shelf Go.Deep
set_option maxHeartbeats 4000000 in
theorem bigVar_c (i : Nat) (w : World) (hi : i < 3) :
 Calls Try.prog 7 #[.int .i64 (i : Int)] w (PolyR 3 (varP 3 i) w) := by
 have hb0 := bel_alloc w (boxP 0 none 0 0)
 have P := Lib.hid hb0
 have RS := Lib.hid (RP0.new w)
 have HI := Lib.hid hi
 clear hb0 hi
 go_enter Try.func7, Try.ntmps7
 go_upto_region 1 with (fail)
 generalize w.alloc (boxP 0 none 0 0) = W0 at P RS ⊢
 obtain ⟨g, hg⟩ : ∃ g, g = w.heap.size := ⟨_, rfl⟩
 have HG := Lib.hid (show w.heap.size ≤ g by rw [hg]; exact Nat.le_refl _)
 rw [← hg] at RS ⊢
 clear hg
 go_wp2_with fail
 refine (refVar_c 3 i _ (by omega) HI.out).mono ?_
 rintro e w1 ⟨A, n, c, rfl, hT, hn, hc, hb⟩
 replace P := Lib.hid (P.out.trans (hb.mono P.out.size))
 replace RS := Lib.hid (RS.out.next hb)
 have HT := Lib.hid hT
 have HN := Lib.hid (And.intro hn hc)
 clear hb hT hn hc
 have r0 := RS.out.bx.c0
 have r1 := RS.out.bx.c1
 have f0 := RS.out.fr 0
 have f1 := RS.out.fr 1
 go_wp2
 have Q := RS.out.bx.put 3 A n c
 have q0 := Q.c0
 have q1 := Q.c1
 refine bodyPost_ret (v := aggP 3 A n c) (by simp [results, Try.results7, go_sem, q0, q1]) rfl ?_
 exact ⟨A, n, c, rfl, rdT_two RS.out.bx HT.out (fun k hk => var_two (by omega) HT.out.len hk) _ _, HN.out.1, HN.out.2, below_store P.out HG.out _ _⟩
abbrev row1b (s : Bool) (A : Option Addr) (n c : Nat) : Obj := .cells #[.bool s, .slice A n c] 24
abbrev row3n (s0 : Bool) (A0 : Option Addr) (n0 c0 : Nat) (s1 : Bool) (A1 : Option Addr) (n1 c1 : Nat) (s2 : Bool) (A2 : Option Addr) (n2 c2 : Nat) : Obj := .cells #[.bool s0, .slice A0 n0 c0, .bool s1, .slice A1 n1 c1, .bool s2, .slice A2 n2 c2] 24
theorem rdN_three {W : World} {xs ys : List Nat} {z : Int} {A A' A'' : Option Addr} {n c n' c' n'' c'' : Nat} {t : Bool} (h : Rd W A n xs) (hn : n ≤ c) (hc : c ≤ 9223372036854775807) (h' : Rd W A' n' ys) (hn' : n' ≤ c') (hc' : c' ≤ 9223372036854775807) (i : Is W z t A'' n'' c'') : RdN (W.alloc (row3n false A n c false A' n' c' t A'' n'' c'')) (some ⟨W.heap.size, 0, none⟩) 3 (nb xs ys z) := by
 have hb := bel_alloc W (row3n false A n c false A' n' c' t A'' n'' c'')
 refine ⟨rfl, fun _ => ⟨W.heap.size, 0, rfl, by simp, fun k hk => ?_⟩⟩
 rcases (show k = 0 ∨ k = 1 ∨ k = 2 by omega) with rfl | rfl | rfl
 · exact ⟨A, n, c, by go_simp; rfl, by go_simp, h.below hb, hn, hc⟩
 · exact ⟨A', n', c', by go_simp; rfl, by go_simp, h'.below hb, hn', hc'⟩
 · refine ⟨A'', n'', c'', ?_, ?_, i.2.2.1.below hb, i.2.2.2.1, i.2.2.2.2⟩
   · show _ = some (Value.bool (decide (z < 0)))
     rw [← i.1]; go_simp
   · go_simp
theorem rdP_one {W : World} {g : Nat} {V : Int} {A : Option Addr} {n c : Nat} {ts : List Trm} (h : BxP W g V A n c) (p : PM W A n c ts) : RdP W (some ⟨g, 0, none⟩) 1 [⟨V, ts⟩] :=
 ⟨rfl, fun _ => ⟨g, 0, rfl, h.lt, fun k hk => by
  obtain rfl : k = 0 := by omega
  exact ⟨A, n, c, h.c0, h.c1, p.rt, p.nc, p.cm⟩⟩⟩
structure BG (w W : World) (g gv gx : Nat) (A : Option Addr) (n c : Nat) (xs : List Nat) (A' : Option Addr) (n' c' : Nat) (ys : List Nat) (Q : Nat) : Prop where
 low : Below w.heap.size w W
 ca : CE W g 0 false A n c
 cb : CE W (g + 1) 0 false A' n' c'
 ra : Is W (val xs : Int) false A n c
 rb : Is W (val ys : Int) false A' n' c'
 rv : RZ W gv [0, 1, 2]
 rx : RdN W (some ⟨gx, 0, none⟩) 3 (nb xs ys (Q : Int))
theorem BG.next {w W W' : World} {g gv gx : Nat} {A : Option Addr} {n c : Nat} {xs : List Nat} {A' : Option Addr} {n' c' : Nat} {ys : List Nat} {Q : Nat} (h : BG w W g gv gx A n c xs A' n' c' ys Q) (hb : Below W.heap.size W W') : BG w W' g gv gx A n c xs A' n' c' ys Q :=
 ⟨h.low.trans (hb.mono h.low.size), h.ca.next hb, h.cb.next hb, h.ra.below hb, h.rb.below hb, h.rv.next hb, h.rx.below hb⟩
theorem is_fits {W : World} {z : Int} {t : Bool} {A : Option Addr} {n c : Nat} (h : Is W z t A n c) : n ≤ 4096 ↔ z.natAbs < pw 4096 := by
 have e := h.2.2.1.len
 rw [← e]
 exact words_len_le
theorem is_val {W : World} {A : Option Addr} {n c : Nat} {xs : List Nat} (h : Rd W A n xs) (hv : validB false xs = true) (hn : n ≤ c) (hc : c ≤ 9223372036854775807) : Is W (val xs : Int) false A n c := Is.of_valid (s := false) h hv hn hc
set_option maxHeartbeats 16000000 in
theorem SystemBig_c (s : Bool) (A : Option Addr) (n c : Nat) (xs : List Nat) (s' : Bool) (A' : Option Addr) (n' c' : Nat) (ys : List Nat) (Q : Nat) (hQ : Q < 4294967296) (w : World) (h : Rd w A n xs) (hn : n ≤ c) (hc : c ≤ 9223372036854775807) (h' : Rd w A' n' ys) (hn' : n' ≤ c') (hc' : c' ≤ 9223372036854775807) :
 Calls Try.prog 3 #[.agg #[.bool s, .slice A n c], .agg #[.bool s', .slice A' n' c'], .int .u32 (Q : Int)] w (IsB true w) := by
 have hb := bel_alloc w (row1b s A n c)
 have hb2 := bel_alloc (w.alloc (row1b s A n c)) (row1b s' A' n' c')
 have P := Lib.hid (hb.trans (hb2.mono hb.size))
 have CA := Lib.hid ((show CE (w.alloc (row1b s A n c)) w.heap.size 0 s A n c from ⟨by simp, by go_simp, by go_simp⟩).next hb2)
 have CB := Lib.hid (show CE ((w.alloc (row1b s A n c)).alloc (row1b s' A' n' c')) (w.alloc (row1b s A n c)).heap.size 0 s' A' n' c' from ⟨by simp, by go_simp, by go_simp⟩)
 rw [World.size_alloc] at CB
 have RA := Lib.hid (And.intro h (And.intro hn hc))
 have RB := Lib.hid (And.intro h' (And.intro hn' hc'))
 clear h hn hc h' hn' hc' hb hb2
 go_enter Try.func3, Try.ntmps3
 go_upto_region 1 with (fail)
 generalize (w.alloc (row1b s A n c)).alloc (row1b s' A' n' c') = W0 at P CA CB ⊢
 obtain ⟨g, hg⟩ : ∃ g, g = w.heap.size := ⟨_, rfl⟩
 have HG := Lib.hid hg
 rw [← hg] at CA CB ⊢
 clear hg
 have a0 := CA.out.c0
 have a1 := CA.out.c1
 go_wp2_with fail
 refine (refValid_c s A n c xs _ (RA.out.1.below P.out)).mono ?_
 rintro e w1 ⟨rfl, hb⟩
 replace P := Lib.hid (P.out.trans (hb.mono P.out.size))
 replace CA := Lib.hid (CA.out.next hb)
 replace CB := Lib.hid (CB.out.next hb)
 clear hb a0 a1
 obtain ⟨v, hv⟩ : ∃ v, v = validB s xs := ⟨_, rfl⟩
 rw [← hv]
 have HV := Lib.hid hv
 clear hv
 cases v with
 | false =>
   go_wp2_with fail
   refine (awake9_c _).mono ?_
   rintro e w9 ⟨rfl, hb⟩
   replace P := Lib.hid (P.out.trans (hb.mono P.out.size))
   clear hb
   go_wp2
   go_ret
   exact ⟨rfl, P.out⟩
 | true =>
 have b0 := CB.out.c0
 have b1 := CB.out.c1
 go_wp2_with fail
 refine (refValid_c s' A' n' c' ys _ (RB.out.1.below P.out)).mono ?_
 rintro e w2 ⟨rfl, hb⟩
 replace P := Lib.hid (P.out.trans (hb.mono P.out.size))
 replace CA := Lib.hid (CA.out.next hb)
 replace CB := Lib.hid (CB.out.next hb)
 clear hb b0 b1
 obtain ⟨v, hv⟩ : ∃ v, v = validB s' ys := ⟨_, rfl⟩
 rw [← hv]
 have HV2 := Lib.hid hv
 clear hv
 cases v with
 | false =>
   go_wp2_with fail
   refine (awake9_c _).mono ?_
   rintro e w9 ⟨rfl, hb⟩
   replace P := Lib.hid (P.out.trans (hb.mono P.out.size))
   clear hb
   go_wp2
   go_ret
   exact ⟨rfl, P.out⟩
 | true =>
 have a0 := CA.out.c0
 cases s with
 | true =>
   go_wp2_with fail
   refine (awake9_c _).mono ?_
   rintro e w9 ⟨rfl, hb⟩
   replace P := Lib.hid (P.out.trans (hb.mono P.out.size))
   clear hb
   go_wp2
   go_ret
   exact ⟨rfl, P.out⟩
 | false =>
 have b0 := CB.out.c0
 cases s' with
 | true =>
   go_wp2_with fail
   refine (awake9_c _).mono ?_
   rintro e w9 ⟨rfl, hb⟩
   replace P := Lib.hid (P.out.trans (hb.mono P.out.size))
   clear hb
   go_wp2
   go_ret
   exact ⟨rfl, P.out⟩
 | false =>
 have a1 := CA.out.c1
 have b1 := CB.out.c1
 have hn4 : n ≤ 4096 := by have h1 := RA.out.1.len; have h2 := raw_le HV.out.symm; omega
 have hn4' : n' ≤ 4096 := by have h1 := RB.out.1.len; have h2 := raw_le HV2.out.symm; omega
 by_cases h6 : 6000 < n + n'
 · have t1 : decide ((6000 : Int) < (n : Int) + (n' : Int)) = true := decide_eq_true (by omega)
   have t1n : decide (6000 < n + n') = true := decide_eq_true h6
   have t1p : (6000 : Int) < (n : Int) + (n' : Int) := by omega
   go_wp2_with fail
   refine (awake9_c _).mono ?_
   rintro e w9 ⟨rfl, hb⟩
   replace P := Lib.hid (P.out.trans (hb.mono P.out.size))
   clear hb
   go_wp2
   go_ret
   exact ⟨rfl, P.out⟩
 have t1 : decide ((6000 : Int) < (n : Int) + (n' : Int)) = false := decide_eq_false (by omega)
 have t1n : decide (6000 < n + n') = false := decide_eq_false h6
 have t1p : ¬ (6000 : Int) < (n : Int) + (n' : Int) := by omega
 go_upto_region 3 with (fail)
 have k1 := bel_alloc w2 (.cells #[.int .i64 0, .int .i64 1, .int .i64 2] 3)
 have RV := Lib.hid (show RZ (w2.alloc (.cells #[.int .i64 0, .int .i64 1, .int .i64 2] 3)) w2.heap.size [0, 1, 2] from RZ.new w2 [0, 1, 2])
 replace P := Lib.hid (P.out.trans (k1.mono P.out.size))
 replace CA := Lib.hid (CA.out.next k1)
 replace CB := Lib.hid (CB.out.next k1)
 clear k1 t1 t1n t1p a0 a1 b0 b1
 have wq : IntKind.i64.wrap (Q : Int) = (Q : Int) := IntWalk.i64_in _ (by omega)
 have IA := Lib.hid (is_val (RA.out.1.below P.out) HV.out.symm RA.out.2.1 RA.out.2.2)
 have IB := Lib.hid (is_val (RB.out.1.below P.out) HV2.out.symm RB.out.2.1 RB.out.2.2)
 have HX := Lib.hid (show val xs < pw 4096 from Nat.lt_of_lt_of_le (val_lt RA.out.1.sm) (pw_le (raw_le HV.out.symm)))
 have HY := Lib.hid (show val ys < pw 4096 from Nat.lt_of_lt_of_le (val_lt RB.out.1.sm) (pw_le (raw_le HV2.out.symm)))
 have HALL := Lib.hid (nb_all (q := (Q : Int)) HV.out.symm HV2.out.symm (by omega) (by omega))
 have HNAT := Lib.hid (nb_nat (xs := xs) (ys := ys) (q := (Q : Int)) (by omega))
 have HQ := Lib.hid hQ
 clear HV HV2
 go_upto_region 5 with (fail)
 generalize w2.alloc (.cells #[.int .i64 0, .int .i64 1, .int .i64 2] 3) = W3 at P CA CB RV IA IB ⊢
 generalize w2.heap.size = gv at RV ⊢
 refine wp_region_held_drew (S := (fun w' => w'.cell? ⟨g, 0, none⟩ = some (.bool false) ∧ w'.cell? ⟨g, 1, none⟩ = some ((.slice A n c)) ∧ w'.cell? ⟨(g + 1), 0, none⟩ = some (.bool false) ∧ w'.cell? ⟨(g + 1), 1, none⟩ = some ((.slice A' n' c')))) (by kernel_rfl) (⟨cell_drq CA.out.c0, cell_drq CA.out.c1, cell_drq CB.out.c0, cell_drq CB.out.c1⟩) (fun hHeld => ?_)
 replace P := Lib.hid (P.out.trans ((Below.refl W3.heap.size W3).drew.mono P.out.size))
 replace CA := Lib.hid (CA.out.next (Below.refl W3.heap.size W3).drew)
 replace CB := Lib.hid (CB.out.next (Below.refl W3.heap.size W3).drew)
 replace IA := Lib.hid (IA.out.below (Below.refl W3.heap.size W3).drew)
 replace IB := Lib.hid (IB.out.below (Below.refl W3.heap.size W3).drew)
 replace RV := Lib.hid (RV.out.next (Below.refl W3.heap.size W3).drew)
 generalize W3.drew = D1 at P CA CB IA IB RV hHeld ⊢
 refine tkk 0 47 rfl rfl (by kernel_rfl) (fun _ _ _ _ h => h) (by rfl) (fun w h => by obtain ⟨h0, h1, h2, h3⟩ := h; go_simp; rfl) (by assumption) ?_
 simp only [set0, set1]
 refine tkk 1 48 rfl rfl (by kernel_rfl) (fun _ _ _ _ h => h) (by rfl) (fun w h => by obtain ⟨h0, h1, h2, h3⟩ := h; go_simp; rfl) (by assumption) ?_
 simp only [set0, set1]
 refine tkk 2 49 rfl rfl (by kernel_rfl) (fun _ _ _ _ h => h) (by rfl) (fun w h => by obtain ⟨h0, h1, h2, h3⟩ := h; go_simp; rfl) (by assumption) ?_
 simp only [set0, set1]
 refine tkk 3 50 rfl rfl (by kernel_rfl) (fun _ _ _ _ h => h) (by rfl) (fun w h => by obtain ⟨h0, h1, h2, h3⟩ := h; go_simp; rfl) (by assumption) ?_
 simp only [set0, set1]
 refine wpAnyH_ready (rs := [4]) (by kernel_rfl) (by simp) ?_
 refine AllReadyH.cons rfl (fun K hK => ?_) AllReadyH.nil
 go_simp
 refine (rofZ (Q : Int) D1 (by omega) (by omega)).mono ?_
 rintro e v2 ⟨t9, A9, n9, c9, rfl, hi9, hb⟩
 replace P := Lib.hid (P.out.trans (hb.mono P.out.size))
 replace CA := Lib.hid (CA.out.next hb)
 replace CB := Lib.hid (CB.out.next hb)
 replace IA := Lib.hid (IA.out.below hb)
 replace IB := Lib.hid (IB.out.below hb)
 replace RV := Lib.hid (RV.out.next hb)
 have I9 := Lib.hid hi9
 clear hi9 hb hHeld
 refine hK.out _ _ (⟨CA.out.c0, CA.out.c1, CB.out.c0, CB.out.c1⟩) (fun hHeld => ?_)
 clear hK K
 refine wpAnyH_ready (rs := [5]) (by kernel_rfl) (by simp) ?_
 refine AllReadyH.cons rfl (fun K hK => ?_) AllReadyH.nil
 go_simp
 have hb := bel_alloc v2 (row3n false A n c false A' n' c' t9 A9 n9 c9)
 have RX := Lib.hid (rdN_three (RA.out.1.below P.out) RA.out.2.1 RA.out.2.2 (RB.out.1.below P.out) RB.out.2.1 RB.out.2.2 I9.out)
 replace P := Lib.hid (P.out.trans (hb.mono P.out.size))
 replace CA := Lib.hid (CA.out.next hb)
 replace CB := Lib.hid (CB.out.next hb)
 replace IA := Lib.hid (IA.out.below hb)
 replace IB := Lib.hid (IB.out.below hb)
 replace RV := Lib.hid (RV.out.next hb)
 clear hb hHeld I9
 generalize v2.alloc (row3n false A n c false A' n' c' t9 A9 n9 c9) = v3 at P CA CB IA IB RV RX ⊢
 generalize v2.heap.size = gx at RX ⊢
 refine hK.out _ _ (⟨CA.out.c0, CA.out.c1, CB.out.c0, CB.out.c1⟩) (fun hHeld => ?_)
 clear hK K
 refine tkk 6 9 rfl rfl (by kernel_rfl) (fun _ _ _ _ h => h) (by rfl) (fun w h => by obtain ⟨h0, h1, h2, h3⟩ := h; go_simp; rfl) (by assumption) ?_
 clear hHeld
 refine wpAnyH_done (by kernel_rfl) ?_ _
 clear wq
 have X := Lib.hid (show BG w v3 g gv gx A n c xs A' n' c' ys Q from ⟨P.out, CA.out, CB.out, IA.out, IB.out, RV.out, RX.out⟩)
 clear P CA CB IA IB RV RX RA RB
 generalize v3 = W5 at X ⊢
 go_wp2_with fail
 refine (bigVar_c 0 _ (by omega)).mono ?_
 rintro e w5 ⟨A0, n0, c0, rfl, hT, hn, hc, hb⟩
 replace X := Lib.hid (X.out.next hb)
 have PM0 := Lib.hid (show PM w5 A0 n0 c0 (varP 3 0) from ⟨hT, hn, hc⟩)
 clear hb hT hn hc
 go_wp2_with fail
 refine (bigVar_c 1 _ (by omega)).mono ?_
 rintro e w6 ⟨A1, n1, c1, rfl, hT, hn, hc, hb⟩
 replace X := Lib.hid (X.out.next hb)
 replace PM0 := Lib.hid (PM0.out.next hb)
 have PM1 := Lib.hid (show PM w6 A1 n1 c1 (varP 3 1) from ⟨hT, hn, hc⟩)
 clear hb hT hn hc
 have tin : ∀ i, i < 3 → TIn 1 3 [⟨1, unitE 3 i⟩] := fun i hi t ht => by
  rcases List.mem_singleton.1 ht with rfl
  refine ⟨?_, unitE_len 3 i, by show (1 : Int).natAbs < pw 1; rw [pw_one]; decide⟩
  match i, hi with
  | 0, _ => intro k hk; have h3 : k < 3 := hk; match k, h3 with | 0, _ => decide | 1, _ => decide | 2, _ => decide
  | 1, _ => intro k hk; have h3 : k < 3 := hk; match k, h3 with | 0, _ => decide | 1, _ => decide | 2, _ => decide
  | 2, _ => intro k hk; have h3 : k < 3 := hk; match k, h3 with | 0, _ => decide | 1, _ => decide | 2, _ => decide
 go_wp2_with fail
 refine (refPMul_c 3 1 1 A0 n0 c0 [⟨1, unitE 3 0⟩] A1 n1 c1 [⟨1, unitE 3 1⟩] _ PM0.out.rt PM1.out.rt (tin 0 (by omega)) (tin 1 (by omega)) (by
  intro u hu v hv k hk
  rcases List.mem_singleton.1 hu with rfl
  rcases List.mem_singleton.1 hv with rfl
  match k, hk with | 0, _ => decide | 1, _ => decide | 2, _ => decide) PM0.out.nc PM0.out.cm (by have h1 := PM0.out.rt.len; have h2 := PM1.out.rt.len; have e1 : (varP 3 0).length = 1 := rfl; have e2 : (varP 3 1).length = 1 := rfl; rw [← h1, ← h2, e1, e2]; decide) (by have h1 := PM0.out.rt.len; have e1 : (varP 3 0).length = 1 := rfl; omega) (by have h1 := PM1.out.rt.len; have e1 : (varP 3 1).length = 1 := rfl; omega) (by omega) (by omega) (by omega) (by omega)).mono ?_
 rintro e w7 ⟨Ap, np, cp, rfl, hT, hn, hc, hb⟩
 rw [mul_is] at hT
 replace X := Lib.hid (X.out.next hb)
 have PMP := Lib.hid (show PM w7 Ap np cp pXY from ⟨hT, hn, hc⟩)
 clear hb hT hn hc PM0 PM1 tin
 obtain ⟨gp, hgp⟩ : ∃ x, x = w7.heap.size := ⟨_, rfl⟩
 have k1 := bel_alloc w7 (boxP 3 Ap np cp)
 have XP := Lib.hid (show BxP (w7.alloc (boxP 3 Ap np cp)) gp 3 Ap np cp from by rw [hgp]; exact BxP.new w7 3 Ap np cp)
 replace X := Lib.hid (X.out.next k1)
 replace PMP := Lib.hid (PMP.out.next k1)
 have hs7 : (w7.alloc (boxP 3 Ap np cp)).heap.size = gp + 1 := by rw [World.size_alloc, hgp]
 go_upto_region 7 with (fail)
 clear k1
 rw [← hgp]
 clear hgp
 generalize w7.alloc (boxP 3 Ap np cp) = W7 at hs7 X PMP XP ⊢
 have k1 := bel_alloc W7 (boxL 0 (some ⟨gv, 0, none⟩) 3 3 (some ⟨gp, 0, none⟩) 1 1)
 have XL := Lib.hid (show BxL (W7.alloc (boxL 0 (some ⟨gv, 0, none⟩) 3 3 (some ⟨gp, 0, none⟩) 1 1)) (gp + 1) 0 (some ⟨gv, 0, none⟩) 3 3 (some ⟨gp, 0, none⟩) 1 1 from by rw [← hs7]; exact BxL.new W7 0 (some ⟨gv, 0, none⟩) 3 3 (some ⟨gp, 0, none⟩) 1 1)
 replace X := Lib.hid (X.out.next k1)
 replace PMP := Lib.hid (PMP.out.next k1)
 replace XP := Lib.hid (XP.out.next k1)
 have hs8 : (W7.alloc (boxL 0 (some ⟨gv, 0, none⟩) 3 3 (some ⟨gp, 0, none⟩) 1 1)).heap.size = gp + 1 + 1 := by rw [World.size_alloc, hs7]
 clear k1 hs7
 generalize W7.alloc (boxL 0 (some ⟨gv, 0, none⟩) 3 3 (some ⟨gp, 0, none⟩) 1 1) = W8 at hs8 XL X PMP XP ⊢
 have RL := Lib.hid (show RdL W8 (some ⟨gp + 1, 0, none⟩) 1 prodL from rdL_one XL.out X.out.rv.rd (rdP_one XP.out PMP.out) (by decide) (by omega) (by omega) (by omega))
 clear XL
 have k1 := bel_alloc W8 (boxS 3 (some ⟨gp + 1, 0, none⟩) 1 1)
 have XS := Lib.hid (show BxY (W8.alloc (boxS 3 (some ⟨gp + 1, 0, none⟩) 1 1)) (gp + 1 + 1) 3 (some ⟨gp + 1, 0, none⟩) 1 1 from by rw [← hs8]; exact BxY.new W8 3 (some ⟨gp + 1, 0, none⟩) 1 1)
 replace X := Lib.hid (X.out.next k1)
 replace RL := Lib.hid (RL.out.below k1)
 clear k1 hs8
 generalize W8.alloc (boxS 3 (some ⟨gp + 1, 0, none⟩) 1 1) = W9 at XS X RL ⊢
 clear XP PMP
 have s0 := XS.out.c0
 have s1 := XS.out.c1
 go_wp2_with fail
 refine (sysHolds_c (val xs * val ys) 3 (some ⟨gp + 1, 0, none⟩) 1 1 prodL (some ⟨gx, 0, none⟩) 3 3 (nb xs ys (Q : Int)) W9 RL.out X.out.rx (by omega) (fun _ _ => prodL_all xs ys (Q : Int))).mono ?_
 rintro e w10 hH
 have hfit := hH.fit
 obtain ⟨r1, k1, rfl, hst, hr, hr2, hb⟩ := hH.val (by rw [prodL_valid, HALL.out]; rfl) rfl HNAT.out
 replace X := Lib.hid (X.out.next hb)
 have HQ1 := Lib.hid (show (val xs * val ys < pw 4096 ∧ k1 = 0 ∧ r1 = decide (val xs = 0 ∨ val ys = 0)) ∨ (¬ val xs * val ys < pw 4096 ∧ k1 = 4 ∧ r1 = false) from by
  by_cases q : val xs * val ys < pw 4096
  · have e1 : k1 = 0 := hst.resolve_right (fun z => absurd z.2 (by omega))
    exact .inl ⟨q, e1, by rw [hr e1, prodL_holds]⟩
  · have e1 : k1 ≠ 0 := fun z => q (by subst z; exact prodL_ok (hfit r1 rfl))
    exact .inr ⟨q, (hst.resolve_left e1).1, hr2 e1⟩)
 clear hb hst hr hr2 hfit hH s0 s1 XS RL
 go_upto_region 8 with (fail)
 go_cut [83] (fun v W => BG w W g gv gx A n c xs A' n' c' ys Q ∧ v = .bool (decide (n + n' ≤ 40 ∨ ¬ val xs * val ys < pw 4096)))
 case first =>
  have a1 := X.out.ca.c1
  have b1 := X.out.cb.c1
  by_cases h40 : n + n' ≤ 40
  · have t1 : decide ((n : Int) + (n' : Int) ≤ 40) = true := decide_eq_true (by omega)
    have t1n : decide (n + n' ≤ 40) = true := decide_eq_true h40
    go_wp2
    go_meet
    exact ⟨X.out, by rw [decide_eq_true (.inl h40)]⟩
  · have t1 : decide ((n : Int) + (n' : Int) ≤ 40) = false := decide_eq_false (by omega)
    have t1n : decide (n + n' ≤ 40) = false := decide_eq_false h40
    clear a1 b1
    by_cases hf : val xs * val ys < pw 4096
    · have HF := Lib.hid hf
      clear hf
      have iA := X.out.ra
      have iB := X.out.rb
      have a0 := X.out.ca.c0
      have a1 := X.out.ca.c1
      have b0 := X.out.cb.c0
      have b1 := X.out.cb.c1
      go_wp2_with fail
      refine (refMul_c iA iB (by omega) (by omega)).mono ?_
      rintro e wm2 ⟨t7, B7, m7, d7, rfl, hi7, hb⟩
      replace X := Lib.hid (X.out.next hb)
      have HM7 := Lib.hid (show decide (m7 ≤ 4096) = true from decide_eq_true ((is_fits hi7).2 (by rw [Int.natAbs_mul, Int.natAbs_natCast, Int.natAbs_natCast]; exact HF.out)))
      clear hb iA iB a0 a1 b0 b1 hi7
      go_wp2_with fail
      refine (fits_c t7 B7 m7 d7 _).mono ?_
      rintro e wf2 ⟨rfl, hb⟩
      rw [HM7.out]
      replace X := Lib.hid (X.out.next hb)
      clear hb HM7
      go_wp2
      go_meet
      exact ⟨X.out, by rw [decide_eq_false (fun q => q.elim h40 (fun q => q HF.out))]⟩
    · have HF := Lib.hid hf
      clear hf
      have iA := X.out.ra
      have iB := X.out.rb
      have a0 := X.out.ca.c0
      have a1 := X.out.ca.c1
      have b0 := X.out.cb.c0
      have b1 := X.out.cb.c1
      go_wp2_with fail
      refine (refMul_c iA iB (by omega) (by omega)).mono ?_
      rintro e wm4 ⟨t7, B7, m7, d7, rfl, hi7, hb⟩
      replace X := Lib.hid (X.out.next hb)
      have HM7 := Lib.hid (show decide (m7 ≤ 4096) = false from decide_eq_false (fun q => HF.out (by have h := (is_fits hi7).1 q; rwa [Int.natAbs_mul, Int.natAbs_natCast, Int.natAbs_natCast] at h)))
      clear hb iA iB a0 a1 b0 b1 hi7
      go_wp2_with fail
      refine (fits_c t7 B7 m7 d7 _).mono ?_
      rintro e wf4 ⟨rfl, hb⟩
      rw [HM7.out]
      replace X := Lib.hid (X.out.next hb)
      clear hb HM7
      go_wp2
      go_meet
      exact ⟨X.out, by rw [decide_eq_true (.inr HF.out)]⟩
 case rest =>
  obtain ⟨hx, rfl⟩ := hcut
  clear X
  have X := Lib.hid hx
  clear hx
  go_upto_if 83 with (fail)
  go_cut [13] (fun _ W => BG w W g gv gx A n c xs A' n' c' ys Q)
  case first =>
   obtain ⟨bq, hbq⟩ : ∃ b, b = decide (n + n' ≤ 40 ∨ ¬ val xs * val ys < pw 4096) := ⟨_, rfl⟩
   rw [← hbq]
   clear hbq
   cases bq with
   | false =>
     go_wp2
     go_meet
     exact X.out
   | true =>
     rcases HQ1.out with ⟨hf, rfl, hr1⟩ | ⟨hf, rfl, rfl⟩
     · have HF := Lib.hid hf
       have HR1 := Lib.hid hr1
       clear hf hr1 HQ1
       have iA := X.out.ra
       have iB := X.out.rb
       have a0 := X.out.ca.c0
       have a1 := X.out.ca.c1
       have b0 := X.out.cb.c0
       have b1 := X.out.cb.c1
       go_wp2_with fail
       refine (refMul_c iA iB (by omega) (by omega)).mono ?_
       rintro e wm1 ⟨t7, B7, m7, d7, rfl, hi7, hb⟩
       replace X := Lib.hid (X.out.next hb)
       have HM7 := Lib.hid (show decide (m7 ≤ 4096) = true from decide_eq_true ((is_fits hi7).2 (by rw [Int.natAbs_mul, Int.natAbs_natCast, Int.natAbs_natCast]; exact HF.out)))
       clear hb iA iB a0 a1 b0 b1 hi7
       go_wp2_with fail
       refine (fits_c t7 B7 m7 d7 _).mono ?_
       rintro e wf1 ⟨rfl, hb⟩
       rw [HM7.out]
       replace X := Lib.hid (X.out.next hb)
       clear hb HM7
       have a0 := X.out.ca.c0
       have a1 := X.out.ca.c1
       go_wp2_with fail
       refine (zero_c false A n c _).mono ?_
       rintro e wz1 ⟨rfl, hb⟩
       have Z1 := Lib.hid (zero_iff X.out.ra)
       have Z2 := Lib.hid (zero_iff X.out.rb)
       replace X := Lib.hid (X.out.next hb)
       clear hb a0 a1
       by_cases z1 : n = 0
       · rw [decide_eq_true z1]
         have hr9 : decide (val xs = 0 ∨ val ys = 0) = true := decide_eq_true (.inl (by have := Z1.out.1 z1; omega))
         rw [hr9] at HR1
         have hr1 := HR1.out
         subst hr1
         clear z1 hr9 HR1
         go_wp2
         go_meet
         exact X.out
       · rw [decide_eq_false z1]
         have b0 := X.out.cb.c0
         have b1 := X.out.cb.c1
         go_wp2_with fail
         refine (zero_c false A' n' c' _).mono ?_
         rintro e wz2 ⟨rfl, hb⟩
         replace X := Lib.hid (X.out.next hb)
         clear hb b0 b1
         by_cases z2 : n' = 0
         · rw [decide_eq_true z2]
           have hr9 : decide (val xs = 0 ∨ val ys = 0) = true := decide_eq_true (.inr (by have := Z2.out.1 z2; omega))
           rw [hr9] at HR1
           have hr1 := HR1.out
           subst hr1
           clear z1 z2 hr9 HR1
           go_wp2
           go_meet
           exact X.out
         · rw [decide_eq_false z2]
           have hr9 : decide (val xs = 0 ∨ val ys = 0) = false := decide_eq_false (fun q => by rcases q with q | q; exact absurd (Z1.out.2 (by omega)) z1; exact absurd (Z2.out.2 (by omega)) z2)
           rw [hr9] at HR1
           have hr1 := HR1.out
           subst hr1
           clear z1 z2 hr9 HR1
           go_wp2
           go_meet
           exact X.out
     · have HF := Lib.hid hf
       clear hf HQ1
       have iA := X.out.ra
       have iB := X.out.rb
       have a0 := X.out.ca.c0
       have a1 := X.out.ca.c1
       have b0 := X.out.cb.c0
       have b1 := X.out.cb.c1
       go_wp2_with fail
       refine (refMul_c iA iB (by omega) (by omega)).mono ?_
       rintro e wm3 ⟨t7, B7, m7, d7, rfl, hi7, hb⟩
       replace X := Lib.hid (X.out.next hb)
       have HM7 := Lib.hid (show decide (m7 ≤ 4096) = false from decide_eq_false (fun q => HF.out (by have h := (is_fits hi7).1 q; rwa [Int.natAbs_mul, Int.natAbs_natCast, Int.natAbs_natCast] at h)))
       clear hb iA iB a0 a1 b0 b1 hi7
       go_wp2_with fail
       refine (fits_c t7 B7 m7 d7 _).mono ?_
       rintro e wf3 ⟨rfl, hb⟩
       rw [HM7.out]
       replace X := Lib.hid (X.out.next hb)
       clear hb HM7
       go_wp2
       go_meet
       exact X.out
  case rest =>
   have hx := hcut
   clear X hcut
   have X := Lib.hid hx
   clear hx HQ1
   go_upto_region 13 with (fail)
   go_loopw [14] (fun v wr => ∃ k : Int, v = .int .i64 k ∧ 1 ≤ k ∧ k ≤ 3 ∧ BG w wr g gv gx A n c xs A' n' c' ys Q) (fun v _ => 3 - (intOf v).toNat)
   case atStart => exact ⟨1, rfl, by omega, by omega, X.out⟩
   case round =>
    obtain ⟨k, rfl, hk1, hk3, hx⟩ := hrel
    clear X
    have X := Lib.hid hx
    clear hx
    rcases (show k = 1 ∨ k = 2 ∨ k = 3 by omega) with rfl | rfl | rfl
    ·
     go_wp2_with fail
     refine (bigVar_c 0 _ (by omega)).mono ?_
     rintro e x0 ⟨A0, n0, c0, rfl, hT, hn, hc, hb⟩
     replace X := Lib.hid (X.out.next hb)
     have PM0 := Lib.hid (show PM x0 A0 n0 c0 (varP 3 0) from ⟨hT, hn, hc⟩)
     clear hb hT hn hc
     go_wp2_with fail
     refine (bigVar_c 2 _ (by omega)).mono ?_
     rintro e x1 ⟨A2, n2, c2, rfl, hT, hn, hc, hb⟩
     replace X := Lib.hid (X.out.next hb)
     replace PM0 := Lib.hid (PM0.out.next hb)
     have PM2 := Lib.hid (show PM x1 A2 n2 c2 (varP 3 2) from ⟨hT, hn, hc⟩)
     clear hb hT hn hc
     go_wp2_with fail
     refine (rofZ 200000 _ (by omega) (by omega)).mono ?_
     rintro e x2 ⟨t8, A8, n8, c8, rfl, hi8, hb⟩
     replace X := Lib.hid (X.out.next hb)
     replace PM0 := Lib.hid (PM0.out.next hb)
     replace PM2 := Lib.hid (PM2.out.next hb)
     have I8 := Lib.hid hi8
     clear hb hi8
     go_wp2_with fail
     refine (refConst_c 3 4096 I8.out (by show (200000 : Int).natAbs < pw 4096; exact Nat.lt_of_lt_of_le (show (200000 : Int).natAbs < pw 1 by rw [pw_one]; decide) (pw_le (by omega))) (by omega) (by omega) (by omega)).mono ?_
     rintro e x3 ⟨AC, nC, cC, rfl, hT, hn, hc, hb⟩
     replace X := Lib.hid (X.out.next hb)
     replace PM0 := Lib.hid (PM0.out.next hb)
     replace PM2 := Lib.hid (PM2.out.next hb)
     have PMC := Lib.hid (show PM x3 AC nC cC ((constZ 200000 3).map trmOf) from ⟨hT, hn, hc⟩)
     clear hb hT hn hc I8
     have tin : ∀ i, i < 3 → TIn 1 3 [⟨1, unitE 3 i⟩] := fun i hi t ht => by
      rcases List.mem_singleton.1 ht with rfl
      refine ⟨?_, unitE_len 3 i, by show (1 : Int).natAbs < pw 1; rw [pw_one]; decide⟩
      match i, hi with
      | 0, _ => intro k hk; have h3 : k < 3 := hk; match k, h3 with | 0, _ => decide | 1, _ => decide | 2, _ => decide
      | 1, _ => intro k hk; have h3 : k < 3 := hk; match k, h3 with | 0, _ => decide | 1, _ => decide | 2, _ => decide
      | 2, _ => intro k hk; have h3 : k < 3 := hk; match k, h3 with | 0, _ => decide | 1, _ => decide | 2, _ => decide
     have tinC : TIn 1 3 (constZ 200000 3) := fun t ht => by
      have e : constZ 200000 3 = [⟨200000, [0, 0, 0]⟩] := by unfold constZ; rw [if_neg (by decide)]; rfl
      rw [e] at ht
      rcases List.mem_singleton.1 ht with rfl
      refine ⟨?_, rfl, by show (200000 : Int).natAbs < pw 1; rw [pw_one]; decide⟩
      intro k hk
      have h3 : k < 3 := hk
      match k, h3 with | 0, _ => decide | 1, _ => decide | 2, _ => decide
     go_wp2_with fail
     refine (refPAdd_c 3 1 A2 n2 c2 [⟨1, unitE 3 2⟩] AC nC cC (constZ 200000 3) _ PM2.out.rt PMC.out.rt (tin 2 (by omega)) tinC (by have h1 := PM2.out.rt.len; have e1 : (varP 3 2).length = 1 := rfl; have h2 := PMC.out.rt.len; have h3 : (constZ 200000 3).length ≤ 1 := (by unfold constZ; split <;> simp); rw [List.length_map] at h2; omega) (by omega) (by omega) (by omega)).mono ?_
     rintro e x4 ⟨Ap, np, cp, rfl, hT, hn, hc, hb⟩
     rw [add_is] at hT
     replace X := Lib.hid (X.out.next hb)
     replace PM0 := Lib.hid (PM0.out.next hb)
     have PMQ := Lib.hid (show PM x4 Ap np cp pQ from ⟨hT, hn, hc⟩)
     clear hb hT hn hc PM2 PMC tin tinC
     go_wp2_with fail
     refine (bigVar_c 1 _ (by omega)).mono ?_
     rintro e x5 ⟨A1, n1, c1, rfl, hT, hn, hc, hb⟩
     replace X := Lib.hid (X.out.next hb)
     replace PM0 := Lib.hid (PM0.out.next hb)
     replace PMQ := Lib.hid (PMQ.out.next hb)
     have PM1 := Lib.hid (show PM x5 A1 n1 c1 (varP 3 1) from ⟨hT, hn, hc⟩)
     clear hb hT hn hc
     obtain ⟨gp, hgp⟩ : ∃ x, x = x5.heap.size := ⟨_, rfl⟩
     have k1 := bel_alloc x5 (row3 3 A0 n0 c0 3 Ap np cp 3 A1 n1 c1)
     have R3L := Lib.hid (show R3 (x5.alloc (row3 3 A0 n0 c0 3 Ap np cp 3 A1 n1 c1)) gp 3 A0 n0 c0 3 Ap np cp 3 A1 n1 c1 from by rw [hgp]; exact R3.new)
     replace X := Lib.hid (X.out.next k1)
     replace PM0 := Lib.hid (PM0.out.next k1)
     replace PMQ := Lib.hid (PMQ.out.next k1)
     replace PM1 := Lib.hid (PM1.out.next k1)
     have hs7 : (x5.alloc (row3 3 A0 n0 c0 3 Ap np cp 3 A1 n1 c1)).heap.size = gp + 1 := by rw [World.size_alloc, hgp]
     go_upto_region 16 with (fail)
     clear k1
     rw [← hgp]
     clear hgp
     generalize x5.alloc (row3 3 A0 n0 c0 3 Ap np cp 3 A1 n1 c1) = W7 at hs7 X PM0 PMQ PM1 R3L ⊢
     have k1 := bel_alloc W7 (boxL 1 (some ⟨gv, 0, none⟩) 3 3 (some ⟨gp, 0, none⟩) 3 3)
     have XL := Lib.hid (show BxL (W7.alloc (boxL 1 (some ⟨gv, 0, none⟩) 3 3 (some ⟨gp, 0, none⟩) 3 3)) (gp + 1) 1 (some ⟨gv, 0, none⟩) 3 3 (some ⟨gp, 0, none⟩) 3 3 from by rw [← hs7]; exact BxL.new W7 1 (some ⟨gv, 0, none⟩) 3 3 (some ⟨gp, 0, none⟩) 3 3)
     replace X := Lib.hid (X.out.next k1)
     replace PM0 := Lib.hid (PM0.out.next k1)
     replace PMQ := Lib.hid (PMQ.out.next k1)
     replace PM1 := Lib.hid (PM1.out.next k1)
     replace R3L := Lib.hid (R3L.out.next k1)
     have hs8 : (W7.alloc (boxL 1 (some ⟨gv, 0, none⟩) 3 3 (some ⟨gp, 0, none⟩) 3 3)).heap.size = gp + 1 + 1 := by rw [World.size_alloc, hs7]
     clear k1 hs7
     generalize W7.alloc (boxL 1 (some ⟨gv, 0, none⟩) 3 3 (some ⟨gp, 0, none⟩) 3 3) = W8 at hs8 XL X PM0 PMQ PM1 R3L ⊢
     have RL := Lib.hid (show RdL W8 (some ⟨gp + 1, 0, none⟩) 1 (bigL 1) from rdL_one XL.out X.out.rv.rd (R3L.out.rd PM0.out PMQ.out PM1.out) (by decide) (by omega) (by omega) (by omega))
     clear XL
     have k1 := bel_alloc W8 (boxS 3 (some ⟨gp + 1, 0, none⟩) 1 1)
     have XS := Lib.hid (show BxY (W8.alloc (boxS 3 (some ⟨gp + 1, 0, none⟩) 1 1)) (gp + 1 + 1) 3 (some ⟨gp + 1, 0, none⟩) 1 1 from by rw [← hs8]; exact BxY.new W8 3 (some ⟨gp + 1, 0, none⟩) 1 1)
     replace X := Lib.hid (X.out.next k1)
     replace RL := Lib.hid (RL.out.below k1)
     clear k1 hs8
     generalize W8.alloc (boxS 3 (some ⟨gp + 1, 0, none⟩) 1 1) = W9 at XS X RL ⊢
     clear R3L PM0 PMQ PM1
     refine wp_region_held_drew (S := (fun w' => w'.cell? ⟨g, 0, none⟩ = some (.bool false) ∧ w'.cell? ⟨g, 1, none⟩ = some ((.slice A n c)) ∧ w'.cell? ⟨(g + 1), 0, none⟩ = some (.bool false) ∧ w'.cell? ⟨(g + 1), 1, none⟩ = some ((.slice A' n' c')))) (by kernel_rfl) (⟨cell_drq X.out.ca.c0, cell_drq X.out.ca.c1, cell_drq X.out.cb.c0, cell_drq X.out.cb.c1⟩) (fun hHeld => ?_)
     replace X := Lib.hid (X.out.next (Below.refl W9.heap.size W9).drew)
     replace RL := Lib.hid (RL.out.below (Below.refl W9.heap.size W9).drew)
     replace XS := Lib.hid (XS.out.next (Below.refl W9.heap.size W9).drew)
     generalize W9.drew = D4 at X RL XS hHeld ⊢
     refine tkk 0 130 rfl rfl (by kernel_rfl) (fun _ _ _ _ h => h) (by rfl) (fun w h => by obtain ⟨h0, h1, h2, h3⟩ := h; go_simp; rfl) (by assumption) ?_
     simp only [set0, set1]
     refine tkk 1 131 rfl rfl (by kernel_rfl) (fun _ _ _ _ h => h) (by rfl) (fun w h => by obtain ⟨h0, h1, h2, h3⟩ := h; go_simp; rfl) (by assumption) ?_
     simp only [set0, set1]
     refine tkk 2 132 rfl rfl (by kernel_rfl) (fun _ _ _ _ h => h) (by rfl) (fun w h => by obtain ⟨h0, h1, h2, h3⟩ := h; go_simp; rfl) (by assumption) ?_
     simp only [set0, set1]
     refine tff 3 133 rfl rfl (by kernel_rfl) (fun _ _ _ _ h => h) (by rfl) (by assumption) ?_
     simp only [set0, set1]
     refine tff 4 134 rfl rfl (by kernel_rfl) (fun _ _ _ _ h => h) (by rfl) (by assumption) ?_
     simp only [set0, set1]
     refine tff 5 135 rfl rfl (by kernel_rfl) (fun _ _ _ _ h => h) (by rfl) (by assumption) ?_
     simp only [set0, set1]
     refine tkk 6 136 rfl rfl (by kernel_rfl) (fun _ _ _ _ h => h) (by rfl) (fun w h => by obtain ⟨h0, h1, h2, h3⟩ := h; go_simp; rfl) (by assumption) ?_
     simp only [set0, set1]
     refine tkk 7 137 rfl rfl (by kernel_rfl) (fun _ _ _ _ h => h) (by rfl) (fun w h => by obtain ⟨h0, h1, h2, h3⟩ := h; go_simp; rfl) (by assumption) ?_
     simp only [set0, set1]
     refine tff 8 138 rfl rfl (by kernel_rfl) (fun _ _ _ _ h => h) (by rfl) (by assumption) ?_
     simp only [set0, set1]
     refine tff 9 139 rfl rfl (by kernel_rfl) (fun _ _ _ _ h => h) (by rfl) (by assumption) ?_
     simp only [set0, set1]
     refine tff 10 140 rfl rfl (by kernel_rfl) (fun _ _ _ _ h => h) (by rfl) (by assumption) ?_
     simp only [set0, set1]
     refine tkk 11 141 rfl rfl (by kernel_rfl) (fun _ _ _ _ h => h) (by rfl) (fun w h => by obtain ⟨h0, h1, h2, h3⟩ := h; go_simp; rfl) (by assumption) ?_
     simp only [set0, set1]
     refine tkk 12 16 rfl rfl (by kernel_rfl) (fun _ _ _ _ h => h) (by rfl) (fun w h => by obtain ⟨h0, h1, h2, h3⟩ := h; go_simp; rfl) (by assumption) ?_
     clear hHeld
     refine wpAnyH_done (by kernel_rfl) ?_ _
     have s0 := XS.out.c0
     have s1 := XS.out.c1
     go_wp2_with fail
     refine (sysHolds_c (pw 4096 - 1) 3 (some ⟨gp + 1, 0, none⟩) 1 1 (bigL 1) (some ⟨gx, 0, none⟩) 3 3 (nb xs ys (Q : Int)) _ RL.out X.out.rx (by omega) (fun _ _ => bigL_all 1 HX.out HY.out (by omega) (by have := HQ.out; omega))).mono ?_
     rintro e y1 hH
     obtain ⟨r9, k9, rfl, hst, hr, hr2, hb⟩ := hH.val (by rw [bigL_valid1, HALL.out]; rfl) rfl HNAT.out
     obtain rfl : k9 = 0 := hst.resolve_right (fun z => by have h1 := z.2; have h2 := pw_pos 4096; omega)
     have hr9 := hr rfl
     rw [bigL_holds1 HY.out (by omega)] at hr9
     subst hr9
     replace X := Lib.hid (X.out.next hb)
     clear hb hst hr hr2 hH s0 s1 XS RL
     go_wp2
     go_roundw
     case measure => simp [intOf]
     case rel => exact ⟨2, by go_num, by omega, by omega, X.out⟩
    ·
     go_wp2_with fail
     refine (bigVar_c 0 _ (by omega)).mono ?_
     rintro e x0 ⟨A0, n0, c0, rfl, hT, hn, hc, hb⟩
     replace X := Lib.hid (X.out.next hb)
     have PM0 := Lib.hid (show PM x0 A0 n0 c0 (varP 3 0) from ⟨hT, hn, hc⟩)
     clear hb hT hn hc
     go_wp2_with fail
     refine (bigVar_c 2 _ (by omega)).mono ?_
     rintro e x1 ⟨A2, n2, c2, rfl, hT, hn, hc, hb⟩
     replace X := Lib.hid (X.out.next hb)
     replace PM0 := Lib.hid (PM0.out.next hb)
     have PM2 := Lib.hid (show PM x1 A2 n2 c2 (varP 3 2) from ⟨hT, hn, hc⟩)
     clear hb hT hn hc
     go_wp2_with fail
     refine (rofZ 200000 _ (by omega) (by omega)).mono ?_
     rintro e x2 ⟨t8, A8, n8, c8, rfl, hi8, hb⟩
     replace X := Lib.hid (X.out.next hb)
     replace PM0 := Lib.hid (PM0.out.next hb)
     replace PM2 := Lib.hid (PM2.out.next hb)
     have I8 := Lib.hid hi8
     clear hb hi8
     go_wp2_with fail
     refine (refConst_c 3 4096 I8.out (by show (200000 : Int).natAbs < pw 4096; exact Nat.lt_of_lt_of_le (show (200000 : Int).natAbs < pw 1 by rw [pw_one]; decide) (pw_le (by omega))) (by omega) (by omega) (by omega)).mono ?_
     rintro e x3 ⟨AC, nC, cC, rfl, hT, hn, hc, hb⟩
     replace X := Lib.hid (X.out.next hb)
     replace PM0 := Lib.hid (PM0.out.next hb)
     replace PM2 := Lib.hid (PM2.out.next hb)
     have PMC := Lib.hid (show PM x3 AC nC cC ((constZ 200000 3).map trmOf) from ⟨hT, hn, hc⟩)
     clear hb hT hn hc I8
     have tin : ∀ i, i < 3 → TIn 1 3 [⟨1, unitE 3 i⟩] := fun i hi t ht => by
      rcases List.mem_singleton.1 ht with rfl
      refine ⟨?_, unitE_len 3 i, by show (1 : Int).natAbs < pw 1; rw [pw_one]; decide⟩
      match i, hi with
      | 0, _ => intro k hk; have h3 : k < 3 := hk; match k, h3 with | 0, _ => decide | 1, _ => decide | 2, _ => decide
      | 1, _ => intro k hk; have h3 : k < 3 := hk; match k, h3 with | 0, _ => decide | 1, _ => decide | 2, _ => decide
      | 2, _ => intro k hk; have h3 : k < 3 := hk; match k, h3 with | 0, _ => decide | 1, _ => decide | 2, _ => decide
     have tinC : TIn 1 3 (constZ 200000 3) := fun t ht => by
      have e : constZ 200000 3 = [⟨200000, [0, 0, 0]⟩] := by unfold constZ; rw [if_neg (by decide)]; rfl
      rw [e] at ht
      rcases List.mem_singleton.1 ht with rfl
      refine ⟨?_, rfl, by show (200000 : Int).natAbs < pw 1; rw [pw_one]; decide⟩
      intro k hk
      have h3 : k < 3 := hk
      match k, h3 with | 0, _ => decide | 1, _ => decide | 2, _ => decide
     go_wp2_with fail
     refine (refPAdd_c 3 1 A2 n2 c2 [⟨1, unitE 3 2⟩] AC nC cC (constZ 200000 3) _ PM2.out.rt PMC.out.rt (tin 2 (by omega)) tinC (by have h1 := PM2.out.rt.len; have e1 : (varP 3 2).length = 1 := rfl; have h2 := PMC.out.rt.len; have h3 : (constZ 200000 3).length ≤ 1 := (by unfold constZ; split <;> simp); rw [List.length_map] at h2; omega) (by omega) (by omega) (by omega)).mono ?_
     rintro e x4 ⟨Ap, np, cp, rfl, hT, hn, hc, hb⟩
     rw [add_is] at hT
     replace X := Lib.hid (X.out.next hb)
     replace PM0 := Lib.hid (PM0.out.next hb)
     have PMQ := Lib.hid (show PM x4 Ap np cp pQ from ⟨hT, hn, hc⟩)
     clear hb hT hn hc PM2 PMC tin tinC
     go_wp2_with fail
     refine (bigVar_c 1 _ (by omega)).mono ?_
     rintro e x5 ⟨A1, n1, c1, rfl, hT, hn, hc, hb⟩
     replace X := Lib.hid (X.out.next hb)
     replace PM0 := Lib.hid (PM0.out.next hb)
     replace PMQ := Lib.hid (PMQ.out.next hb)
     have PM1 := Lib.hid (show PM x5 A1 n1 c1 (varP 3 1) from ⟨hT, hn, hc⟩)
     clear hb hT hn hc
     obtain ⟨gp, hgp⟩ : ∃ x, x = x5.heap.size := ⟨_, rfl⟩
     have k1 := bel_alloc x5 (row3 3 A0 n0 c0 3 Ap np cp 3 A1 n1 c1)
     have R3L := Lib.hid (show R3 (x5.alloc (row3 3 A0 n0 c0 3 Ap np cp 3 A1 n1 c1)) gp 3 A0 n0 c0 3 Ap np cp 3 A1 n1 c1 from by rw [hgp]; exact R3.new)
     replace X := Lib.hid (X.out.next k1)
     replace PM0 := Lib.hid (PM0.out.next k1)
     replace PMQ := Lib.hid (PMQ.out.next k1)
     replace PM1 := Lib.hid (PM1.out.next k1)
     have hs7 : (x5.alloc (row3 3 A0 n0 c0 3 Ap np cp 3 A1 n1 c1)).heap.size = gp + 1 := by rw [World.size_alloc, hgp]
     go_upto_region 16 with (fail)
     clear k1
     rw [← hgp]
     clear hgp
     generalize x5.alloc (row3 3 A0 n0 c0 3 Ap np cp 3 A1 n1 c1) = W7 at hs7 X PM0 PMQ PM1 R3L ⊢
     have k1 := bel_alloc W7 (boxL 2 (some ⟨gv, 0, none⟩) 3 3 (some ⟨gp, 0, none⟩) 3 3)
     have XL := Lib.hid (show BxL (W7.alloc (boxL 2 (some ⟨gv, 0, none⟩) 3 3 (some ⟨gp, 0, none⟩) 3 3)) (gp + 1) 2 (some ⟨gv, 0, none⟩) 3 3 (some ⟨gp, 0, none⟩) 3 3 from by rw [← hs7]; exact BxL.new W7 2 (some ⟨gv, 0, none⟩) 3 3 (some ⟨gp, 0, none⟩) 3 3)
     replace X := Lib.hid (X.out.next k1)
     replace PM0 := Lib.hid (PM0.out.next k1)
     replace PMQ := Lib.hid (PMQ.out.next k1)
     replace PM1 := Lib.hid (PM1.out.next k1)
     replace R3L := Lib.hid (R3L.out.next k1)
     have hs8 : (W7.alloc (boxL 2 (some ⟨gv, 0, none⟩) 3 3 (some ⟨gp, 0, none⟩) 3 3)).heap.size = gp + 1 + 1 := by rw [World.size_alloc, hs7]
     clear k1 hs7
     generalize W7.alloc (boxL 2 (some ⟨gv, 0, none⟩) 3 3 (some ⟨gp, 0, none⟩) 3 3) = W8 at hs8 XL X PM0 PMQ PM1 R3L ⊢
     have RL := Lib.hid (show RdL W8 (some ⟨gp + 1, 0, none⟩) 1 (bigL 2) from rdL_one XL.out X.out.rv.rd (R3L.out.rd PM0.out PMQ.out PM1.out) (by decide) (by omega) (by omega) (by omega))
     clear XL
     have k1 := bel_alloc W8 (boxS 3 (some ⟨gp + 1, 0, none⟩) 1 1)
     have XS := Lib.hid (show BxY (W8.alloc (boxS 3 (some ⟨gp + 1, 0, none⟩) 1 1)) (gp + 1 + 1) 3 (some ⟨gp + 1, 0, none⟩) 1 1 from by rw [← hs8]; exact BxY.new W8 3 (some ⟨gp + 1, 0, none⟩) 1 1)
     replace X := Lib.hid (X.out.next k1)
     replace RL := Lib.hid (RL.out.below k1)
     clear k1 hs8
     generalize W8.alloc (boxS 3 (some ⟨gp + 1, 0, none⟩) 1 1) = W9 at XS X RL ⊢
     clear R3L PM0 PMQ PM1
     by_cases hx1 : val xs = 1
     case neg =>
      have H1 := Lib.hid (show decide ((val xs : Int) = 1) = false from decide_eq_false (by omega))
      have HB := Lib.hid (show decide (val xs = 1 ∧ val ys = 1) = false from decide_eq_false (fun q => hx1 q.1))
      clear hx1
      refine wp_region_held_drew (S := (fun w' => w'.cell? ⟨g, 0, none⟩ = some (.bool false) ∧ w'.cell? ⟨g, 1, none⟩ = some ((.slice A n c)) ∧ w'.cell? ⟨(g + 1), 0, none⟩ = some (.bool false) ∧ w'.cell? ⟨(g + 1), 1, none⟩ = some ((.slice A' n' c')))) (by kernel_rfl) (⟨cell_drq X.out.ca.c0, cell_drq X.out.ca.c1, cell_drq X.out.cb.c0, cell_drq X.out.cb.c1⟩) (fun hHeld => ?_)
      replace X := Lib.hid (X.out.next (Below.refl W9.heap.size W9).drew)
      replace RL := Lib.hid (RL.out.below (Below.refl W9.heap.size W9).drew)
      replace XS := Lib.hid (XS.out.next (Below.refl W9.heap.size W9).drew)
      generalize W9.drew = D5 at X RL XS hHeld ⊢
      refine tkk 0 130 rfl rfl (by kernel_rfl) (fun _ _ _ _ h => h) (by rfl) (fun w h => by obtain ⟨h0, h1, h2, h3⟩ := h; go_simp; rfl) (by assumption) ?_
      simp only [set0, set1]
      refine tkk 1 131 rfl rfl (by kernel_rfl) (fun _ _ _ _ h => h) (by rfl) (fun w h => by obtain ⟨h0, h1, h2, h3⟩ := h; go_simp; rfl) (by assumption) ?_
      simp only [set0, set1]
      refine tkk 2 132 rfl rfl (by kernel_rfl) (fun _ _ _ _ h => h) (by rfl) (fun w h => by obtain ⟨h0, h1, h2, h3⟩ := h; go_simp; rfl) (by assumption) ?_
      simp only [set0, set1]
      refine tkk 3 133 rfl rfl (by kernel_rfl) (fun _ _ _ _ h => h) (by rfl) (fun w h => by obtain ⟨h0, h1, h2, h3⟩ := h; go_simp; rfl) (by assumption) ?_
      simp only [set0, set1]
      refine wpAnyH_ready (rs := [4]) (by kernel_rfl) (by simp) ?_
      refine AllReadyH.cons rfl (fun K hK => ?_) AllReadyH.nil
      go_simp
      refine (rofZ 1 D5 (by omega) (by omega)).mono ?_
      rintro e v6 ⟨t9, A9, n9, c9, rfl, hi9, hb⟩
      replace X := Lib.hid (X.out.next hb)
      replace RL := Lib.hid (RL.out.below hb)
      replace XS := Lib.hid (XS.out.next hb)
      have I9 := Lib.hid hi9
      clear hi9 hb hHeld
      refine hK.out _ _ (⟨X.out.ca.c0, X.out.ca.c1, X.out.cb.c0, X.out.cb.c1⟩) (fun hHeld => ?_)
      clear hK K
      refine wpAnyH_ready (rs := [5]) (by kernel_rfl) (by simp) ?_
      refine AllReadyH.cons rfl (fun K hK => ?_) AllReadyH.nil
      go_simp
      refine (same_is X.out.ra I9.out (k := 4096) (by show (_ : Int).natAbs < pw 4096; rw [Int.natAbs_natCast]; exact HX.out) (Nat.le_refl _)).mono ?_
      rintro e v7 ⟨rfl, hb⟩
      rw [H1.out]
      replace X := Lib.hid (X.out.next hb)
      replace RL := Lib.hid (RL.out.below hb)
      replace XS := Lib.hid (XS.out.next hb)
      clear hb hHeld I9
      refine hK.out _ _ (⟨X.out.ca.c0, X.out.ca.c1, X.out.cb.c0, X.out.cb.c1⟩) (fun hHeld => ?_)
      clear hK K
      refine tkk 6 136 rfl rfl (by kernel_rfl) (fun _ _ _ _ h => h) (by rfl) (fun w h => by obtain ⟨h0, h1, h2, h3⟩ := h; go_simp; rfl) (by assumption) ?_
      simp only [set0, set1]
      refine tkk 7 137 rfl rfl (by kernel_rfl) (fun _ _ _ _ h => h) (by rfl) (fun w h => by obtain ⟨h0, h1, h2, h3⟩ := h; go_simp; rfl) (by assumption) ?_
      simp only [set0, set1]
      refine tff 8 138 rfl rfl (by kernel_rfl) (fun _ _ _ _ h => h) (by rfl) (by assumption) ?_
      simp only [set0, set1]
      refine tff 9 139 rfl rfl (by kernel_rfl) (fun _ _ _ _ h => h) (by rfl) (by assumption) ?_
      simp only [set0, set1]
      refine tff 10 140 rfl rfl (by kernel_rfl) (fun _ _ _ _ h => h) (by rfl) (by assumption) ?_
      simp only [set0, set1]
      refine tkk 11 141 rfl rfl (by kernel_rfl) (fun _ _ _ _ h => h) (by rfl) (fun w h => by obtain ⟨h0, h1, h2, h3⟩ := h; go_simp; rfl) (by assumption) ?_
      simp only [set0, set1]
      refine tkk 12 16 rfl rfl (by kernel_rfl) (fun _ _ _ _ h => h) (by rfl) (fun w h => by obtain ⟨h0, h1, h2, h3⟩ := h; go_simp; rfl) (by assumption) ?_
      clear hHeld
      refine wpAnyH_done (by kernel_rfl) ?_ _
      have s0 := XS.out.c0
      have s1 := XS.out.c1
      go_wp2_with fail
      refine (sysHolds_c (pw 4096 - 1) 3 (some ⟨gp + 1, 0, none⟩) 1 1 (bigL 2) (some ⟨gx, 0, none⟩) 3 3 (nb xs ys (Q : Int)) _ RL.out X.out.rx (by omega) (fun _ _ => bigL_all 2 HX.out HY.out (by omega) (by have := HQ.out; omega))).mono ?_
      rintro e y1 hH
      obtain ⟨r9, k9, rfl, hst, hr, hr2, hb⟩ := hH.val (by rw [bigL_valid2, HALL.out]; rfl) rfl HNAT.out
      obtain rfl : k9 = 0 := hst.resolve_right (fun z => by have h1 := z.2; have h2 := pw_pos 4096; omega)
      have hr9 := hr rfl
      rw [bigL_holds2 HY.out (by omega), HB.out] at hr9
      subst hr9
      replace X := Lib.hid (X.out.next hb)
      clear hb hst hr hr2 hH s0 s1 XS RL
      go_wp2
      go_roundw
      case measure => simp [intOf]
      case rel => exact ⟨3, by go_num, by omega, by omega, X.out⟩
     case pos =>
     have H1 := Lib.hid (show decide ((val xs : Int) = 1) = true from decide_eq_true (by omega))
     by_cases hy1 : val ys = 1
     case neg =>
      have H2 := Lib.hid (show decide ((val ys : Int) = 1) = false from decide_eq_false (by omega))
      have HB := Lib.hid (show decide (val xs = 1 ∧ val ys = 1) = false from decide_eq_false (fun q => hy1 q.2))
      clear hx1 hy1
      refine wp_region_held_drew (S := (fun w' => w'.cell? ⟨g, 0, none⟩ = some (.bool false) ∧ w'.cell? ⟨g, 1, none⟩ = some ((.slice A n c)) ∧ w'.cell? ⟨(g + 1), 0, none⟩ = some (.bool false) ∧ w'.cell? ⟨(g + 1), 1, none⟩ = some ((.slice A' n' c')))) (by kernel_rfl) (⟨cell_drq X.out.ca.c0, cell_drq X.out.ca.c1, cell_drq X.out.cb.c0, cell_drq X.out.cb.c1⟩) (fun hHeld => ?_)
      replace X := Lib.hid (X.out.next (Below.refl W9.heap.size W9).drew)
      replace RL := Lib.hid (RL.out.below (Below.refl W9.heap.size W9).drew)
      replace XS := Lib.hid (XS.out.next (Below.refl W9.heap.size W9).drew)
      generalize W9.drew = D8 at X RL XS hHeld ⊢
      refine tkk 0 130 rfl rfl (by kernel_rfl) (fun _ _ _ _ h => h) (by rfl) (fun w h => by obtain ⟨h0, h1, h2, h3⟩ := h; go_simp; rfl) (by assumption) ?_
      simp only [set0, set1]
      refine tkk 1 131 rfl rfl (by kernel_rfl) (fun _ _ _ _ h => h) (by rfl) (fun w h => by obtain ⟨h0, h1, h2, h3⟩ := h; go_simp; rfl) (by assumption) ?_
      simp only [set0, set1]
      refine tkk 2 132 rfl rfl (by kernel_rfl) (fun _ _ _ _ h => h) (by rfl) (fun w h => by obtain ⟨h0, h1, h2, h3⟩ := h; go_simp; rfl) (by assumption) ?_
      simp only [set0, set1]
      refine tkk 3 133 rfl rfl (by kernel_rfl) (fun _ _ _ _ h => h) (by rfl) (fun w h => by obtain ⟨h0, h1, h2, h3⟩ := h; go_simp; rfl) (by assumption) ?_
      simp only [set0, set1]
      refine wpAnyH_ready (rs := [4]) (by kernel_rfl) (by simp) ?_
      refine AllReadyH.cons rfl (fun K hK => ?_) AllReadyH.nil
      go_simp
      refine (rofZ 1 D8 (by omega) (by omega)).mono ?_
      rintro e v9 ⟨t9, A9, n9, c9, rfl, hi9, hb⟩
      replace X := Lib.hid (X.out.next hb)
      replace RL := Lib.hid (RL.out.below hb)
      replace XS := Lib.hid (XS.out.next hb)
      have I9 := Lib.hid hi9
      clear hi9 hb hHeld
      refine hK.out _ _ (⟨X.out.ca.c0, X.out.ca.c1, X.out.cb.c0, X.out.cb.c1⟩) (fun hHeld => ?_)
      clear hK K
      refine wpAnyH_ready (rs := [5]) (by kernel_rfl) (by simp) ?_
      refine AllReadyH.cons rfl (fun K hK => ?_) AllReadyH.nil
      go_simp
      refine (same_is X.out.ra I9.out (k := 4096) (by show (_ : Int).natAbs < pw 4096; rw [Int.natAbs_natCast]; exact HX.out) (Nat.le_refl _)).mono ?_
      rintro e v10 ⟨rfl, hb⟩
      rw [H1.out]
      replace X := Lib.hid (X.out.next hb)
      replace RL := Lib.hid (RL.out.below hb)
      replace XS := Lib.hid (XS.out.next hb)
      clear hb hHeld I9
      refine hK.out _ _ (⟨X.out.ca.c0, X.out.ca.c1, X.out.cb.c0, X.out.cb.c1⟩) (fun hHeld => ?_)
      clear hK K
      refine tkk 6 136 rfl rfl (by kernel_rfl) (fun _ _ _ _ h => h) (by rfl) (fun w h => by obtain ⟨h0, h1, h2, h3⟩ := h; go_simp; rfl) (by assumption) ?_
      simp only [set0, set1]
      refine tkk 7 137 rfl rfl (by kernel_rfl) (fun _ _ _ _ h => h) (by rfl) (fun w h => by obtain ⟨h0, h1, h2, h3⟩ := h; go_simp; rfl) (by assumption) ?_
      simp only [set0, set1]
      refine tkk 8 138 rfl rfl (by kernel_rfl) (fun _ _ _ _ h => h) (by rfl) (fun w h => by obtain ⟨h0, h1, h2, h3⟩ := h; go_simp; rfl) (by assumption) ?_
      simp only [set0, set1]
      refine wpAnyH_ready (rs := [9]) (by kernel_rfl) (by simp) ?_
      refine AllReadyH.cons rfl (fun K hK => ?_) AllReadyH.nil
      go_simp
      refine (rofZ 1 v10 (by omega) (by omega)).mono ?_
      rintro e v11 ⟨t9, A9, n9, c9, rfl, hi9, hb⟩
      replace X := Lib.hid (X.out.next hb)
      replace RL := Lib.hid (RL.out.below hb)
      replace XS := Lib.hid (XS.out.next hb)
      have I9 := Lib.hid hi9
      clear hi9 hb hHeld
      refine hK.out _ _ (⟨X.out.ca.c0, X.out.ca.c1, X.out.cb.c0, X.out.cb.c1⟩) (fun hHeld => ?_)
      clear hK K
      refine wpAnyH_ready (rs := [10]) (by kernel_rfl) (by simp) ?_
      refine AllReadyH.cons rfl (fun K hK => ?_) AllReadyH.nil
      go_simp
      refine (same_is X.out.rb I9.out (k := 4096) (by show (_ : Int).natAbs < pw 4096; rw [Int.natAbs_natCast]; exact HY.out) (Nat.le_refl _)).mono ?_
      rintro e v12 ⟨rfl, hb⟩
      rw [H2.out]
      replace X := Lib.hid (X.out.next hb)
      replace RL := Lib.hid (RL.out.below hb)
      replace XS := Lib.hid (XS.out.next hb)
      clear hb hHeld I9
      refine hK.out _ _ (⟨X.out.ca.c0, X.out.ca.c1, X.out.cb.c0, X.out.cb.c1⟩) (fun hHeld => ?_)
      clear hK K
      refine tkk 11 141 rfl rfl (by kernel_rfl) (fun _ _ _ _ h => h) (by rfl) (fun w h => by obtain ⟨h0, h1, h2, h3⟩ := h; go_simp; rfl) (by assumption) ?_
      simp only [set0, set1]
      refine tkk 12 16 rfl rfl (by kernel_rfl) (fun _ _ _ _ h => h) (by rfl) (fun w h => by obtain ⟨h0, h1, h2, h3⟩ := h; go_simp; rfl) (by assumption) ?_
      clear hHeld
      refine wpAnyH_done (by kernel_rfl) ?_ _
      have s0 := XS.out.c0
      have s1 := XS.out.c1
      go_wp2_with fail
      refine (sysHolds_c (pw 4096 - 1) 3 (some ⟨gp + 1, 0, none⟩) 1 1 (bigL 2) (some ⟨gx, 0, none⟩) 3 3 (nb xs ys (Q : Int)) _ RL.out X.out.rx (by omega) (fun _ _ => bigL_all 2 HX.out HY.out (by omega) (by have := HQ.out; omega))).mono ?_
      rintro e y1 hH
      obtain ⟨r9, k9, rfl, hst, hr, hr2, hb⟩ := hH.val (by rw [bigL_valid2, HALL.out]; rfl) rfl HNAT.out
      obtain rfl : k9 = 0 := hst.resolve_right (fun z => by have h1 := z.2; have h2 := pw_pos 4096; omega)
      have hr9 := hr rfl
      rw [bigL_holds2 HY.out (by omega), HB.out] at hr9
      subst hr9
      replace X := Lib.hid (X.out.next hb)
      clear hb hst hr hr2 hH s0 s1 XS RL
      go_wp2
      go_roundw
      case measure => simp [intOf]
      case rel => exact ⟨3, by go_num, by omega, by omega, X.out⟩
     case pos =>
     have H2 := Lib.hid (show decide ((val ys : Int) = 1) = true from decide_eq_true (by omega))
     have HB := Lib.hid (show decide (val xs = 1 ∧ val ys = 1) = true from decide_eq_true ⟨hx1, hy1⟩)
     clear hx1 hy1
     refine wp_region_held_drew (S := (fun w' => w'.cell? ⟨g, 0, none⟩ = some (.bool false) ∧ w'.cell? ⟨g, 1, none⟩ = some ((.slice A n c)) ∧ w'.cell? ⟨(g + 1), 0, none⟩ = some (.bool false) ∧ w'.cell? ⟨(g + 1), 1, none⟩ = some ((.slice A' n' c')))) (by kernel_rfl) (⟨cell_drq X.out.ca.c0, cell_drq X.out.ca.c1, cell_drq X.out.cb.c0, cell_drq X.out.cb.c1⟩) (fun hHeld => ?_)
     replace X := Lib.hid (X.out.next (Below.refl W9.heap.size W9).drew)
     replace RL := Lib.hid (RL.out.below (Below.refl W9.heap.size W9).drew)
     replace XS := Lib.hid (XS.out.next (Below.refl W9.heap.size W9).drew)
     generalize W9.drew = D13 at X RL XS hHeld ⊢
     refine tkk 0 130 rfl rfl (by kernel_rfl) (fun _ _ _ _ h => h) (by rfl) (fun w h => by obtain ⟨h0, h1, h2, h3⟩ := h; go_simp; rfl) (by assumption) ?_
     simp only [set0, set1]
     refine tkk 1 131 rfl rfl (by kernel_rfl) (fun _ _ _ _ h => h) (by rfl) (fun w h => by obtain ⟨h0, h1, h2, h3⟩ := h; go_simp; rfl) (by assumption) ?_
     simp only [set0, set1]
     refine tkk 2 132 rfl rfl (by kernel_rfl) (fun _ _ _ _ h => h) (by rfl) (fun w h => by obtain ⟨h0, h1, h2, h3⟩ := h; go_simp; rfl) (by assumption) ?_
     simp only [set0, set1]
     refine tkk 3 133 rfl rfl (by kernel_rfl) (fun _ _ _ _ h => h) (by rfl) (fun w h => by obtain ⟨h0, h1, h2, h3⟩ := h; go_simp; rfl) (by assumption) ?_
     simp only [set0, set1]
     refine wpAnyH_ready (rs := [4]) (by kernel_rfl) (by simp) ?_
     refine AllReadyH.cons rfl (fun K hK => ?_) AllReadyH.nil
     go_simp
     refine (rofZ 1 D13 (by omega) (by omega)).mono ?_
     rintro e v14 ⟨t9, A9, n9, c9, rfl, hi9, hb⟩
     replace X := Lib.hid (X.out.next hb)
     replace RL := Lib.hid (RL.out.below hb)
     replace XS := Lib.hid (XS.out.next hb)
     have I9 := Lib.hid hi9
     clear hi9 hb hHeld
     refine hK.out _ _ (⟨X.out.ca.c0, X.out.ca.c1, X.out.cb.c0, X.out.cb.c1⟩) (fun hHeld => ?_)
     clear hK K
     refine wpAnyH_ready (rs := [5]) (by kernel_rfl) (by simp) ?_
     refine AllReadyH.cons rfl (fun K hK => ?_) AllReadyH.nil
     go_simp
     refine (same_is X.out.ra I9.out (k := 4096) (by show (_ : Int).natAbs < pw 4096; rw [Int.natAbs_natCast]; exact HX.out) (Nat.le_refl _)).mono ?_
     rintro e v15 ⟨rfl, hb⟩
     rw [H1.out]
     replace X := Lib.hid (X.out.next hb)
     replace RL := Lib.hid (RL.out.below hb)
     replace XS := Lib.hid (XS.out.next hb)
     clear hb hHeld I9
     refine hK.out _ _ (⟨X.out.ca.c0, X.out.ca.c1, X.out.cb.c0, X.out.cb.c1⟩) (fun hHeld => ?_)
     clear hK K
     refine tkk 6 136 rfl rfl (by kernel_rfl) (fun _ _ _ _ h => h) (by rfl) (fun w h => by obtain ⟨h0, h1, h2, h3⟩ := h; go_simp; rfl) (by assumption) ?_
     simp only [set0, set1]
     refine tkk 7 137 rfl rfl (by kernel_rfl) (fun _ _ _ _ h => h) (by rfl) (fun w h => by obtain ⟨h0, h1, h2, h3⟩ := h; go_simp; rfl) (by assumption) ?_
     simp only [set0, set1]
     refine tkk 8 138 rfl rfl (by kernel_rfl) (fun _ _ _ _ h => h) (by rfl) (fun w h => by obtain ⟨h0, h1, h2, h3⟩ := h; go_simp; rfl) (by assumption) ?_
     simp only [set0, set1]
     refine wpAnyH_ready (rs := [9]) (by kernel_rfl) (by simp) ?_
     refine AllReadyH.cons rfl (fun K hK => ?_) AllReadyH.nil
     go_simp
     refine (rofZ 1 v15 (by omega) (by omega)).mono ?_
     rintro e v16 ⟨t9, A9, n9, c9, rfl, hi9, hb⟩
     replace X := Lib.hid (X.out.next hb)
     replace RL := Lib.hid (RL.out.below hb)
     replace XS := Lib.hid (XS.out.next hb)
     have I9 := Lib.hid hi9
     clear hi9 hb hHeld
     refine hK.out _ _ (⟨X.out.ca.c0, X.out.ca.c1, X.out.cb.c0, X.out.cb.c1⟩) (fun hHeld => ?_)
     clear hK K
     refine wpAnyH_ready (rs := [10]) (by kernel_rfl) (by simp) ?_
     refine AllReadyH.cons rfl (fun K hK => ?_) AllReadyH.nil
     go_simp
     refine (same_is X.out.rb I9.out (k := 4096) (by show (_ : Int).natAbs < pw 4096; rw [Int.natAbs_natCast]; exact HY.out) (Nat.le_refl _)).mono ?_
     rintro e v17 ⟨rfl, hb⟩
     rw [H2.out]
     replace X := Lib.hid (X.out.next hb)
     replace RL := Lib.hid (RL.out.below hb)
     replace XS := Lib.hid (XS.out.next hb)
     clear hb hHeld I9
     refine hK.out _ _ (⟨X.out.ca.c0, X.out.ca.c1, X.out.cb.c0, X.out.cb.c1⟩) (fun hHeld => ?_)
     clear hK K
     refine tkk 11 141 rfl rfl (by kernel_rfl) (fun _ _ _ _ h => h) (by rfl) (fun w h => by obtain ⟨h0, h1, h2, h3⟩ := h; go_simp; rfl) (by assumption) ?_
     simp only [set0, set1]
     refine tkk 12 16 rfl rfl (by kernel_rfl) (fun _ _ _ _ h => h) (by rfl) (fun w h => by obtain ⟨h0, h1, h2, h3⟩ := h; go_simp; rfl) (by assumption) ?_
     clear hHeld
     refine wpAnyH_done (by kernel_rfl) ?_ _
     have s0 := XS.out.c0
     have s1 := XS.out.c1
     go_wp2_with fail
     refine (sysHolds_c (pw 4096 - 1) 3 (some ⟨gp + 1, 0, none⟩) 1 1 (bigL 2) (some ⟨gx, 0, none⟩) 3 3 (nb xs ys (Q : Int)) _ RL.out X.out.rx (by omega) (fun _ _ => bigL_all 2 HX.out HY.out (by omega) (by have := HQ.out; omega))).mono ?_
     rintro e y1 hH
     obtain ⟨r9, k9, rfl, hst, hr, hr2, hb⟩ := hH.val (by rw [bigL_valid2, HALL.out]; rfl) rfl HNAT.out
     obtain rfl : k9 = 0 := hst.resolve_right (fun z => by have h1 := z.2; have h2 := pw_pos 4096; omega)
     have hr9 := hr rfl
     rw [bigL_holds2 HY.out (by omega), HB.out] at hr9
     subst hr9
     replace X := Lib.hid (X.out.next hb)
     clear hb hst hr hr2 hH s0 s1 XS RL
     go_wp2
     go_roundw
     case measure => simp [intOf]
     case rel => exact ⟨3, by go_num, by omega, by omega, X.out⟩
    ·
     go_wp2_with fail
     refine (awake9_c _).mono ?_
     rintro e w9 ⟨rfl, hb⟩
     have P := Lib.hid (X.out.low.trans (hb.mono X.out.low.size))
     clear hb
     go_wp2
     go_ret
     exact ⟨rfl, P.out⟩
end Go.Proofs.Yteabokkofoomkaa

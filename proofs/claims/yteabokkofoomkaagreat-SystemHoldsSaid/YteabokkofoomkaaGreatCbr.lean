import Derived.Test.YteabokkofoomkaaGreatCak
import Derived.Test.YteabokkofoomkaaGreatCbq
import Derived.Test.YteabokkofoomkaaGreatCbo
import Derived.Test.YteabokkofoomkaaGreatCbh
import Derived.Test.YteabokkofoomkaaGreatCat
set_option maxRecDepth 100000
namespace Go.Proofs.YteabokkofoomkaaGreat
open Go.RowKit Go.Shelf Go.Deep
theorem bound_one (f : Nat → Nat) : ∀ n, ∃ T, ∀ i, i < n → f i ≤ T
 | 0 => ⟨0, fun i h => absurd h (by omega)⟩
 | n + 1 => by
   obtain ⟨T, h⟩ := bound_one f n
   refine ⟨T + f n, fun i hi => ?_⟩
   by_cases e : i = n
   · subst e; omega
   · have := h i (by omega); omega
theorem bound_two (f : Nat → Nat → Nat) (m : Nat → Nat) (n : Nat) : ∃ T, ∀ i, i < n → ∀ j, j < m i → f i j ≤ T := by
 obtain ⟨g, hg⟩ : ∃ g : Nat → Nat, ∀ i, ∀ j, j < m i → f i j ≤ g i := ⟨fun i => (bound_one (f i) (m i)).choose, fun i => (bound_one (f i) (m i)).choose_spec⟩
 obtain ⟨T, hT⟩ := bound_one g n
 exact ⟨T, fun i hi j hj => Nat.le_trans (hg i j hj) (hT i hi)⟩
def allL (ls : List Lnk) (ns : List Nmr) (i j : Nat) : Nat := allV (plyAt (lnkAt ls i).ps j).ts (ownOf (lnkAt ls i).vs ns) (plyAt (lnkAt ls i).ps j).ts.length
theorem bound_all {w : World} {V : Int} {A : Option Addr} {n : Nat} {ls : List Lnk} {X : Option Addr} {nx : Nat} {ns : List Nmr} {M : Int} (hM : M ≤ 600) (h : RdL w A n ls) (h' : RdN w X nx ns) (hs : validS V ls = true → (nx : Int) = V → allB ns = true → sysMost ls ns ls.length M) :
 ∃ T, (∀ i, i < ls.length → ∀ j, j < (lnkAt ls i).ps.length → allL ls ns i j ≤ T) ∧ (validS V ls = true → (nx : Int) = V → allB ns = true → T = pw 600) := by
 by_cases q : validS V ls = true ∧ (nx : Int) = V ∧ allB ns = true
 · exact ⟨pw 600, sys_short h h' q.1 q.2.1 (hs q.1 q.2.1 q.2.2) hM, fun _ _ _ => rfl⟩
 · obtain ⟨T, hT⟩ := bound_two (allL ls ns) (fun i => (lnkAt ls i).ps.length) ls.length
   exact ⟨T, hT, fun h1 h2 h3 => absurd ⟨h1, h2, h3⟩ q⟩
set_option maxHeartbeats 16000000 in
theorem SystemHolds_c (V : Int) (A : Option Addr) (n c : Nat) (ls : List Lnk) (X : Option Addr) (nx cx : Nat) (ns : List Nmr) (w : World) (h : RdL w A n ls) (hn : n ≤ c) (hc : c ≤ 9223372036854775807) (h' : RdN w X nx ns) (hx : nx ≤ cx) (hcx : cx ≤ 9223372036854775807) :
 Calls Tryz.prog 3 #[aggS V A n c, .slice X nx cx] w (IsB true w) := by
 have k1 := bel_alloc w (boxS V A n c)
 have X0 := Lib.hid (show SL w (w.alloc (boxS V A n c)) w.heap.size V A n c from ⟨k1, BxY.new w V A n c⟩)
 have HI := Lib.hid (And.intro h h')
 have HL := Lib.hid (And.intro h.len h'.len)
 have HN := Lib.hid (show n ≤ 9223372036854775807 ∧ nx ≤ 9223372036854775807 by omega)
 clear k1 h h' hn hc hx hcx
 go_enter Tryz.func3, Tryz.ntmps3
 go_upto_region 1 with (fail)
 generalize w.alloc (boxS V A n c) = W0 at X0 ⊢
 obtain ⟨g, hg⟩ : ∃ g, g = w.heap.size := ⟨_, rfl⟩
 have HG := Lib.hid (show w.heap.size ≤ g by omega)
 rw [← hg] at X0 ⊢
 clear hg
 have a0 := X0.out.bx.c0
 have a1 := X0.out.bx.c1
 go_wp2_with fail
 refine (wide9_c V A n c ls X nx cx ns 600 _ (HI.out.1.below X0.out.low) (HI.out.2.below X0.out.low) HN.out.2 HN.out.1).mono ?_
 rintro e w1 ⟨b, rfl, hb, hl⟩
 replace X0 := Lib.hid (X0.out.next hb)
 have HLI := Lib.hid hl
 clear hb hl a0 a1
 cases b with
 | false =>
   go_wp2_with fail
   refine (awake9_c _).mono ?_
   rintro e w9 ⟨rfl, hb⟩
   have P := Lib.hid (X0.out.low.trans (hb.mono X0.out.low.size))
   clear hb
   go_wp2
   go_ret
   exact ⟨rfl, P.out⟩
 | true =>
 obtain ⟨T, hT, hT2⟩ := bound_all (w := w) (V := V) (A := A) (n := n) (ls := ls) (X := X) (nx := nx) (ns := ns) (M := 600) (by omega) HI.out.1 HI.out.2 (HLI.out rfl)
 have HT := Lib.hid (And.intro hT hT2)
 clear hT hT2 HLI
 have a0 := X0.out.bx.c0
 have a1 := X0.out.bx.c1
 go_wp2_with fail
 refine (sysCounts_c V A n c ls _ (HI.out.1.below X0.out.low)).mono ?_
 rintro e w2 hC
 clear a0 a1
 rcases hC with ⟨hv, rfl, hb⟩ | ⟨hv, rfl, hb⟩
 case inr =>
  have HV := Lib.hid hv
  replace X0 := Lib.hid (X0.out.next hb)
  clear hb hv
  have k1 := bel_alloc w2 (.cells #[.int .i64 0, .int .i64 0, .int .i64 0, .int .i64 0, .int .i64 0, .int .i64 0] 29)
  have C := Lib.hid (CB.new w2 0 0 0 0 0 0)
  replace X0 := Lib.hid (X0.out.next k1)
  clear k1
  go_upto_region 4 with (fail)
  generalize w2.alloc (.cells #[.int .i64 0, .int .i64 0, .int .i64 0, .int .i64 0, .int .i64 0, .int .i64 0] 29) = W3 at C X0 ⊢
  generalize w2.heap.size = gc at C ⊢
  have a0 := X0.out.bx.c0
  have a1 := X0.out.bx.c1
  go_wp2_with fail
  clear a0 a1
  refine (sysHolds_c T V A n c ls X nx cx ns _ (HI.out.1.below X0.out.low) (HI.out.2.below X0.out.low) HN.out.2 (fun _ _ => HT.out.1)).mono ?_
  rintro e w4 hH
  obtain ⟨rfl, hb⟩ := hH.form (by rw [HV.out]; rfl)
  replace X0 := Lib.hid (X0.out.next hb)
  replace C := Lib.hid (C.out.next hb)
  clear hb hH
  go_upto_region 5 with (fail)
  refine wp_region_held_drew (S := (fun w' => w'.cell? ⟨g, 0, none⟩ = some (.int .i64 V) ∧ w'.cell? ⟨g, 1, none⟩ = some (.slice A n c))) (by kernel_rfl) (⟨cell_drq X0.out.bx.c0, cell_drq X0.out.bx.c1⟩) (fun hHeld => ?_)
  replace X0 := Lib.hid (X0.out.next (Below.refl w4.heap.size w4).drew)
  replace C := Lib.hid (C.out.next (Below.refl w4.heap.size w4).drew)
  generalize w4.drew = D1 at X0 C hHeld ⊢
  refine tkk 0 27 rfl rfl (by kernel_rfl) (fun _ _ _ _ h => h) (by rfl) (fun w h => by obtain ⟨h0, h1⟩ := h; go_simp; rfl) (by assumption) ?_
  simp only [set0, set1]
  refine tkk 2 29 rfl rfl (by kernel_rfl) (fun _ _ _ _ h => h) (by rfl) (fun w h => by obtain ⟨h0, h1⟩ := h; go_simp; rfl) (by assumption) ?_
  simp only [set0, set1]
  refine wpAnyH_ready (rs := [1]) (by kernel_rfl) (by simp) ?_
  refine AllReadyH.cons rfl (fun K hK => ?_) AllReadyH.nil
  go_simp
  refine (sysValid_c V A n c ls _ (HI.out.1.below X0.out.low)).mono ?_
  rintro e v2 ⟨rfl, hb⟩
  rw [HV.out]
  replace X0 := Lib.hid (X0.out.next hb)
  replace C := Lib.hid (C.out.next hb)
  clear hb hHeld
  refine hK.out _ _ (⟨X0.out.bx.c0, X0.out.bx.c1⟩) (fun hHeld => ?_)
  clear hK K
  refine wpAnyH_ready (rs := [3]) (by kernel_rfl) (by simp) ?_
  refine AllReadyH.cons rfl (fun K hK => ?_) AllReadyH.nil
  go_simp
  refine (refSysValid_c V A n c ls _ (HI.out.1.below X0.out.low)).mono ?_
  rintro e v3 ⟨rfl, hb⟩
  rw [HV.out]
  replace X0 := Lib.hid (X0.out.next hb)
  replace C := Lib.hid (C.out.next hb)
  clear hb hHeld
  refine hK.out _ _ (⟨X0.out.bx.c0, X0.out.bx.c1⟩) (fun hHeld => ?_)
  clear hK K
  refine tkk 4 31 rfl rfl (by kernel_rfl) (fun _ _ _ _ h => h) (by rfl) (fun w h => by obtain ⟨h0, h1⟩ := h; go_simp; rfl) (by assumption) ?_
  clear hHeld
  refine wpAnyH_done (by kernel_rfl) ?_ _
  have a0 := X0.out.bx.c0
  have a1 := X0.out.bx.c1
  go_wp2_with fail
  refine (refSysValid_c V A n c ls _ (HI.out.1.below X0.out.low)).mono ?_
  rintro e w7 ⟨rfl, hb⟩
  rw [HV.out]
  replace X0 := Lib.hid (X0.out.next hb)
  replace C := Lib.hid (C.out.next hb)
  clear hb a0 a1
  have c0 := C.out.c0
  have c1 := C.out.c1
  have c2 := C.out.c2
  have c3 := C.out.c3
  have c4 := C.out.c4
  have c5 := C.out.c5
  go_wp2_with fail
  refine (awake9_c _).mono ?_
  rintro e w9 ⟨rfl, hb⟩
  have P := Lib.hid (X0.out.low.trans (hb.mono X0.out.low.size))
  clear hb
  go_wp2
  go_ret
  exact ⟨rfl, P.out⟩
 have HV := Lib.hid hv
 replace X0 := Lib.hid (X0.out.next hb)
 clear hb hv
 have k1 := bel_alloc w2 (.cells #[.int .i64 V, .int .i64 (cntL ls 0 ls.length : Int), .int .i64 (cntL ls 1 ls.length : Int), .int .i64 (cntL ls 2 ls.length : Int), .int .i64 (cntL ls 3 ls.length : Int), .int .i64 (degL ls ls.length)] 29)
 have C := Lib.hid (CB.new w2 V (cntL ls 0 ls.length : Int) (cntL ls 1 ls.length : Int) (cntL ls 2 ls.length : Int) (cntL ls 3 ls.length : Int) (degL ls ls.length))
 replace X0 := Lib.hid (X0.out.next k1)
 clear k1
 go_upto_region 4 with (fail)
 generalize w2.alloc (.cells #[.int .i64 V, .int .i64 (cntL ls 0 ls.length : Int), .int .i64 (cntL ls 1 ls.length : Int), .int .i64 (cntL ls 2 ls.length : Int), .int .i64 (cntL ls 3 ls.length : Int), .int .i64 (degL ls ls.length)] 29) = W3 at C X0 ⊢
 generalize w2.heap.size = gc at C ⊢
 have a0 := X0.out.bx.c0
 have a1 := X0.out.bx.c1
 go_wp2_with fail
 clear a0 a1
 refine (sysHolds_c T V A n c ls X nx cx ns _ (HI.out.1.below X0.out.low) (HI.out.2.below X0.out.low) HN.out.2 (fun _ _ => HT.out.1)).mono ?_
 rintro e w4 hH
 obtain ⟨u, hu⟩ : ∃ v, v = allB ns := ⟨_, rfl⟩
 have HU := Lib.hid hu
 clear hu
 cases u with
 | false =>
   obtain ⟨rfl, hb⟩ := hH.form (by rw [HV.out, ← HU.out]; rfl)
   replace X0 := Lib.hid (X0.out.next hb)
   replace C := Lib.hid (C.out.next hb)
   clear hb hH
   go_upto_region 5 with (fail)
   refine wp_region_held_drew (S := (fun w' => w'.cell? ⟨g, 0, none⟩ = some (.int .i64 V) ∧ w'.cell? ⟨g, 1, none⟩ = some (.slice A n c))) (by kernel_rfl) (⟨cell_drq X0.out.bx.c0, cell_drq X0.out.bx.c1⟩) (fun hHeld => ?_)
   replace X0 := Lib.hid (X0.out.next (Below.refl w4.heap.size w4).drew)
   replace C := Lib.hid (C.out.next (Below.refl w4.heap.size w4).drew)
   generalize w4.drew = D4 at X0 C hHeld ⊢
   refine tkk 0 27 rfl rfl (by kernel_rfl) (fun _ _ _ _ h => h) (by rfl) (fun w h => by obtain ⟨h0, h1⟩ := h; go_simp; rfl) (by assumption) ?_
   simp only [set0, set1]
   refine tkk 2 29 rfl rfl (by kernel_rfl) (fun _ _ _ _ h => h) (by rfl) (fun w h => by obtain ⟨h0, h1⟩ := h; go_simp; rfl) (by assumption) ?_
   simp only [set0, set1]
   refine wpAnyH_ready (rs := [1]) (by kernel_rfl) (by simp) ?_
   refine AllReadyH.cons rfl (fun K hK => ?_) AllReadyH.nil
   go_simp
   refine (sysValid_c V A n c ls _ (HI.out.1.below X0.out.low)).mono ?_
   rintro e v5 ⟨rfl, hb⟩
   rw [HV.out]
   replace X0 := Lib.hid (X0.out.next hb)
   replace C := Lib.hid (C.out.next hb)
   clear hb hHeld
   refine hK.out _ _ (⟨X0.out.bx.c0, X0.out.bx.c1⟩) (fun hHeld => ?_)
   clear hK K
   refine wpAnyH_ready (rs := [3]) (by kernel_rfl) (by simp) ?_
   refine AllReadyH.cons rfl (fun K hK => ?_) AllReadyH.nil
   go_simp
   refine (refSysValid_c V A n c ls _ (HI.out.1.below X0.out.low)).mono ?_
   rintro e v6 ⟨rfl, hb⟩
   rw [HV.out]
   replace X0 := Lib.hid (X0.out.next hb)
   replace C := Lib.hid (C.out.next hb)
   clear hb hHeld
   refine hK.out _ _ (⟨X0.out.bx.c0, X0.out.bx.c1⟩) (fun hHeld => ?_)
   clear hK K
   refine tkk 4 31 rfl rfl (by kernel_rfl) (fun _ _ _ _ h => h) (by rfl) (fun w h => by obtain ⟨h0, h1⟩ := h; go_simp; rfl) (by assumption) ?_
   clear hHeld
   refine wpAnyH_done (by kernel_rfl) ?_ _
   have a0 := X0.out.bx.c0
   have a1 := X0.out.bx.c1
   go_wp2_with fail
   refine (refSysValid_c V A n c ls _ (HI.out.1.below X0.out.low)).mono ?_
   rintro e w7 ⟨rfl, hb⟩
   rw [HV.out]
   replace X0 := Lib.hid (X0.out.next hb)
   replace C := Lib.hid (C.out.next hb)
   clear hb a0 a1
   go_upto_region 9 with (fail)
   refine wp_region_held_drew (S := (fun w' => w'.cell? ⟨g, 0, none⟩ = some (.int .i64 V) ∧ w'.cell? ⟨g, 1, none⟩ = some (.slice A n c) ∧ w'.cell? ⟨gc, 0, none⟩ = some (.int .i64 V) ∧ w'.cell? ⟨gc, 1, none⟩ = some (.int .i64 (cntL ls 0 ls.length : Int)) ∧ w'.cell? ⟨gc, 2, none⟩ = some (.int .i64 (cntL ls 1 ls.length : Int)) ∧ w'.cell? ⟨gc, 3, none⟩ = some (.int .i64 (cntL ls 2 ls.length : Int)) ∧ w'.cell? ⟨gc, 4, none⟩ = some (.int .i64 (cntL ls 3 ls.length : Int)) ∧ w'.cell? ⟨gc, 5, none⟩ = some (.int .i64 (degL ls ls.length)))) (by kernel_rfl) (⟨cell_drq X0.out.bx.c0, cell_drq X0.out.bx.c1, cell_drq C.out.c0, cell_drq C.out.c1, cell_drq C.out.c2, cell_drq C.out.c3, cell_drq C.out.c4, cell_drq C.out.c5⟩) (fun hHeld => ?_)
   replace X0 := Lib.hid (X0.out.next (Below.refl w7.heap.size w7).drew)
   replace C := Lib.hid (C.out.next (Below.refl w7.heap.size w7).drew)
   generalize w7.drew = D7 at X0 C hHeld ⊢
   refine tkk 0 53 rfl rfl (by kernel_rfl) (fun _ _ _ _ h => h) (by rfl) (fun w h => by obtain ⟨h0, h1, h2, h3, h4, h5, h6, h7⟩ := h; go_simp; rfl) (by assumption) ?_
   simp only [set0, set1]
   refine tkk 1 54 rfl rfl (by kernel_rfl) (fun _ _ _ _ h => h) (by rfl) (fun w h => by obtain ⟨h0, h1, h2, h3, h4, h5, h6, h7⟩ := h; go_simp; rfl) (by assumption) ?_
   simp only [set0, set1]
   refine tkk 2 55 rfl rfl (by kernel_rfl) (fun _ _ _ _ h => h) (by rfl) (fun w h => by obtain ⟨h0, h1, h2, h3, h4, h5, h6, h7⟩ := h; go_simp; rfl) (by assumption) ?_
   simp only [set0, set1]
   refine tkk 3 56 rfl rfl (by kernel_rfl) (fun _ _ _ _ h => h) (by rfl) (fun w h => by obtain ⟨h0, h1, h2, h3, h4, h5, h6, h7⟩ := h; go_simp; rfl) (by assumption) ?_
   simp only [set0, set1]
   refine tkk 4 57 rfl rfl (by kernel_rfl) (fun _ _ _ _ h => h) (by rfl) (fun w h => by obtain ⟨h0, h1, h2, h3, h4, h5, h6, h7⟩ := h; go_simp; rfl) (by assumption) ?_
   simp only [set0, set1]
   refine wpAnyH_ready (rs := [5]) (by kernel_rfl) (by simp) ?_
   refine AllReadyH.cons rfl (fun K hK => ?_) AllReadyH.nil
   go_simp
   refine (refCounts_c V A n c ls _ (HI.out.1.below X0.out.low) HV.out).mono ?_
   rintro e v8 ⟨rfl, hb⟩
   replace X0 := Lib.hid (X0.out.next hb)
   replace C := Lib.hid (C.out.next hb)
   clear hb hHeld
   unfold cntA
   refine hK.out _ _ (⟨X0.out.bx.c0, X0.out.bx.c1, C.out.c0, C.out.c1, C.out.c2, C.out.c3, C.out.c4, C.out.c5⟩) (fun hHeld => ?_)
   clear hK K
   refine tkk 6 59 rfl rfl (by kernel_rfl) (fun _ _ _ _ h => h) (by rfl) (fun w h => by obtain ⟨h0, h1, h2, h3, h4, h5, h6, h7⟩ := h; go_simp; rfl) (by assumption) ?_
   simp only [set0, set1]
   refine tkk 7 60 rfl rfl (by kernel_rfl) (fun _ _ _ _ h => h) (by rfl) (fun w h => by obtain ⟨h0, h1, h2, h3, h4, h5, h6, h7⟩ := h; go_simp; rfl) (by assumption) ?_
   clear hHeld
   refine wpAnyH_done (by kernel_rfl) ?_ _
   go_wp2_with fail
   refine (refAll_c X nx cx ns _ (HI.out.2.below X0.out.low) HN.out.2).mono ?_
   rintro e w8 ⟨rfl, hb⟩
   rw [← HU.out]
   replace X0 := Lib.hid (X0.out.next hb)
   clear hb C
   go_wp2_with fail
   refine (awake9_c _).mono ?_
   rintro e w9 ⟨rfl, hb⟩
   have P := Lib.hid (X0.out.low.trans (hb.mono X0.out.low.size))
   clear hb
   go_wp2
   go_ret
   exact ⟨rfl, P.out⟩
 | true =>
 have HVU := Lib.hid (show (validS V ls && allB ns) = true by rw [HV.out, ← HU.out]; rfl)
 by_cases hm : (nx : Int) = V
 case neg =>
  obtain ⟨rfl, hb⟩ := hH.arg HVU.out (.inl (by rw [HL.out.2]; exact hm))
  have HM := Lib.hid hm
  clear hm
  replace X0 := Lib.hid (X0.out.next hb)
  replace C := Lib.hid (C.out.next hb)
  clear hb hH
  go_upto_region 5 with (fail)
  refine wp_region_held_drew (S := (fun w' => w'.cell? ⟨g, 0, none⟩ = some (.int .i64 V) ∧ w'.cell? ⟨g, 1, none⟩ = some (.slice A n c))) (by kernel_rfl) (⟨cell_drq X0.out.bx.c0, cell_drq X0.out.bx.c1⟩) (fun hHeld => ?_)
  replace X0 := Lib.hid (X0.out.next (Below.refl w4.heap.size w4).drew)
  replace C := Lib.hid (C.out.next (Below.refl w4.heap.size w4).drew)
  generalize w4.drew = D9 at X0 C hHeld ⊢
  refine tkk 0 27 rfl rfl (by kernel_rfl) (fun _ _ _ _ h => h) (by rfl) (fun w h => by obtain ⟨h0, h1⟩ := h; go_simp; rfl) (by assumption) ?_
  simp only [set0, set1]
  refine tkk 2 29 rfl rfl (by kernel_rfl) (fun _ _ _ _ h => h) (by rfl) (fun w h => by obtain ⟨h0, h1⟩ := h; go_simp; rfl) (by assumption) ?_
  simp only [set0, set1]
  refine wpAnyH_ready (rs := [1]) (by kernel_rfl) (by simp) ?_
  refine AllReadyH.cons rfl (fun K hK => ?_) AllReadyH.nil
  go_simp
  refine (sysValid_c V A n c ls _ (HI.out.1.below X0.out.low)).mono ?_
  rintro e v10 ⟨rfl, hb⟩
  rw [HV.out]
  replace X0 := Lib.hid (X0.out.next hb)
  replace C := Lib.hid (C.out.next hb)
  clear hb hHeld
  refine hK.out _ _ (⟨X0.out.bx.c0, X0.out.bx.c1⟩) (fun hHeld => ?_)
  clear hK K
  refine wpAnyH_ready (rs := [3]) (by kernel_rfl) (by simp) ?_
  refine AllReadyH.cons rfl (fun K hK => ?_) AllReadyH.nil
  go_simp
  refine (refSysValid_c V A n c ls _ (HI.out.1.below X0.out.low)).mono ?_
  rintro e v11 ⟨rfl, hb⟩
  rw [HV.out]
  replace X0 := Lib.hid (X0.out.next hb)
  replace C := Lib.hid (C.out.next hb)
  clear hb hHeld
  refine hK.out _ _ (⟨X0.out.bx.c0, X0.out.bx.c1⟩) (fun hHeld => ?_)
  clear hK K
  refine tkk 4 31 rfl rfl (by kernel_rfl) (fun _ _ _ _ h => h) (by rfl) (fun w h => by obtain ⟨h0, h1⟩ := h; go_simp; rfl) (by assumption) ?_
  clear hHeld
  refine wpAnyH_done (by kernel_rfl) ?_ _
  have a0 := X0.out.bx.c0
  have a1 := X0.out.bx.c1
  go_wp2_with fail
  refine (refSysValid_c V A n c ls _ (HI.out.1.below X0.out.low)).mono ?_
  rintro e w7 ⟨rfl, hb⟩
  rw [HV.out]
  replace X0 := Lib.hid (X0.out.next hb)
  replace C := Lib.hid (C.out.next hb)
  clear hb a0 a1
  go_upto_region 9 with (fail)
  refine wp_region_held_drew (S := (fun w' => w'.cell? ⟨g, 0, none⟩ = some (.int .i64 V) ∧ w'.cell? ⟨g, 1, none⟩ = some (.slice A n c) ∧ w'.cell? ⟨gc, 0, none⟩ = some (.int .i64 V) ∧ w'.cell? ⟨gc, 1, none⟩ = some (.int .i64 (cntL ls 0 ls.length : Int)) ∧ w'.cell? ⟨gc, 2, none⟩ = some (.int .i64 (cntL ls 1 ls.length : Int)) ∧ w'.cell? ⟨gc, 3, none⟩ = some (.int .i64 (cntL ls 2 ls.length : Int)) ∧ w'.cell? ⟨gc, 4, none⟩ = some (.int .i64 (cntL ls 3 ls.length : Int)) ∧ w'.cell? ⟨gc, 5, none⟩ = some (.int .i64 (degL ls ls.length)))) (by kernel_rfl) (⟨cell_drq X0.out.bx.c0, cell_drq X0.out.bx.c1, cell_drq C.out.c0, cell_drq C.out.c1, cell_drq C.out.c2, cell_drq C.out.c3, cell_drq C.out.c4, cell_drq C.out.c5⟩) (fun hHeld => ?_)
  replace X0 := Lib.hid (X0.out.next (Below.refl w7.heap.size w7).drew)
  replace C := Lib.hid (C.out.next (Below.refl w7.heap.size w7).drew)
  generalize w7.drew = D12 at X0 C hHeld ⊢
  refine tkk 0 53 rfl rfl (by kernel_rfl) (fun _ _ _ _ h => h) (by rfl) (fun w h => by obtain ⟨h0, h1, h2, h3, h4, h5, h6, h7⟩ := h; go_simp; rfl) (by assumption) ?_
  simp only [set0, set1]
  refine tkk 1 54 rfl rfl (by kernel_rfl) (fun _ _ _ _ h => h) (by rfl) (fun w h => by obtain ⟨h0, h1, h2, h3, h4, h5, h6, h7⟩ := h; go_simp; rfl) (by assumption) ?_
  simp only [set0, set1]
  refine tkk 2 55 rfl rfl (by kernel_rfl) (fun _ _ _ _ h => h) (by rfl) (fun w h => by obtain ⟨h0, h1, h2, h3, h4, h5, h6, h7⟩ := h; go_simp; rfl) (by assumption) ?_
  simp only [set0, set1]
  refine tkk 3 56 rfl rfl (by kernel_rfl) (fun _ _ _ _ h => h) (by rfl) (fun w h => by obtain ⟨h0, h1, h2, h3, h4, h5, h6, h7⟩ := h; go_simp; rfl) (by assumption) ?_
  simp only [set0, set1]
  refine tkk 4 57 rfl rfl (by kernel_rfl) (fun _ _ _ _ h => h) (by rfl) (fun w h => by obtain ⟨h0, h1, h2, h3, h4, h5, h6, h7⟩ := h; go_simp; rfl) (by assumption) ?_
  simp only [set0, set1]
  refine wpAnyH_ready (rs := [5]) (by kernel_rfl) (by simp) ?_
  refine AllReadyH.cons rfl (fun K hK => ?_) AllReadyH.nil
  go_simp
  refine (refCounts_c V A n c ls _ (HI.out.1.below X0.out.low) HV.out).mono ?_
  rintro e v13 ⟨rfl, hb⟩
  replace X0 := Lib.hid (X0.out.next hb)
  replace C := Lib.hid (C.out.next hb)
  clear hb hHeld
  unfold cntA
  refine hK.out _ _ (⟨X0.out.bx.c0, X0.out.bx.c1, C.out.c0, C.out.c1, C.out.c2, C.out.c3, C.out.c4, C.out.c5⟩) (fun hHeld => ?_)
  clear hK K
  refine tkk 6 59 rfl rfl (by kernel_rfl) (fun _ _ _ _ h => h) (by rfl) (fun w h => by obtain ⟨h0, h1, h2, h3, h4, h5, h6, h7⟩ := h; go_simp; rfl) (by assumption) ?_
  simp only [set0, set1]
  refine tkk 7 60 rfl rfl (by kernel_rfl) (fun _ _ _ _ h => h) (by rfl) (fun w h => by obtain ⟨h0, h1, h2, h3, h4, h5, h6, h7⟩ := h; go_simp; rfl) (by assumption) ?_
  clear hHeld
  refine wpAnyH_done (by kernel_rfl) ?_ _
  go_wp2_with fail
  refine (refAll_c X nx cx ns _ (HI.out.2.below X0.out.low) HN.out.2).mono ?_
  rintro e w8 ⟨rfl, hb⟩
  rw [← HU.out]
  replace X0 := Lib.hid (X0.out.next hb)
  clear hb C
  have t0 : ((nx : Int) != V) = true := by rw [bne_iff_ne]; exact HM.out
  have a0 := X0.out.bx.c0
  go_wp2_with fail
  refine (awake9_c _).mono ?_
  rintro e w9 ⟨rfl, hb⟩
  have P := Lib.hid (X0.out.low.trans (hb.mono X0.out.low.size))
  clear hb
  go_wp2
  go_ret
  exact ⟨rfl, P.out⟩
 have HM := Lib.hid hm
 obtain ⟨u, hu⟩ : ∃ v, v = natB ns := ⟨_, rfl⟩
 have HN9 := Lib.hid hu
 clear hu
 cases u with
 | false =>
   obtain ⟨rfl, hb⟩ := hH.arg HVU.out (.inr HN9.out.symm)
   clear hm
   replace X0 := Lib.hid (X0.out.next hb)
   replace C := Lib.hid (C.out.next hb)
   clear hb hH
   go_upto_region 5 with (fail)
   refine wp_region_held_drew (S := (fun w' => w'.cell? ⟨g, 0, none⟩ = some (.int .i64 V) ∧ w'.cell? ⟨g, 1, none⟩ = some (.slice A n c))) (by kernel_rfl) (⟨cell_drq X0.out.bx.c0, cell_drq X0.out.bx.c1⟩) (fun hHeld => ?_)
   replace X0 := Lib.hid (X0.out.next (Below.refl w4.heap.size w4).drew)
   replace C := Lib.hid (C.out.next (Below.refl w4.heap.size w4).drew)
   generalize w4.drew = D14 at X0 C hHeld ⊢
   refine tkk 0 27 rfl rfl (by kernel_rfl) (fun _ _ _ _ h => h) (by rfl) (fun w h => by obtain ⟨h0, h1⟩ := h; go_simp; rfl) (by assumption) ?_
   simp only [set0, set1]
   refine tkk 2 29 rfl rfl (by kernel_rfl) (fun _ _ _ _ h => h) (by rfl) (fun w h => by obtain ⟨h0, h1⟩ := h; go_simp; rfl) (by assumption) ?_
   simp only [set0, set1]
   refine wpAnyH_ready (rs := [1]) (by kernel_rfl) (by simp) ?_
   refine AllReadyH.cons rfl (fun K hK => ?_) AllReadyH.nil
   go_simp
   refine (sysValid_c V A n c ls _ (HI.out.1.below X0.out.low)).mono ?_
   rintro e v15 ⟨rfl, hb⟩
   rw [HV.out]
   replace X0 := Lib.hid (X0.out.next hb)
   replace C := Lib.hid (C.out.next hb)
   clear hb hHeld
   refine hK.out _ _ (⟨X0.out.bx.c0, X0.out.bx.c1⟩) (fun hHeld => ?_)
   clear hK K
   refine wpAnyH_ready (rs := [3]) (by kernel_rfl) (by simp) ?_
   refine AllReadyH.cons rfl (fun K hK => ?_) AllReadyH.nil
   go_simp
   refine (refSysValid_c V A n c ls _ (HI.out.1.below X0.out.low)).mono ?_
   rintro e v16 ⟨rfl, hb⟩
   rw [HV.out]
   replace X0 := Lib.hid (X0.out.next hb)
   replace C := Lib.hid (C.out.next hb)
   clear hb hHeld
   refine hK.out _ _ (⟨X0.out.bx.c0, X0.out.bx.c1⟩) (fun hHeld => ?_)
   clear hK K
   refine tkk 4 31 rfl rfl (by kernel_rfl) (fun _ _ _ _ h => h) (by rfl) (fun w h => by obtain ⟨h0, h1⟩ := h; go_simp; rfl) (by assumption) ?_
   clear hHeld
   refine wpAnyH_done (by kernel_rfl) ?_ _
   have a0 := X0.out.bx.c0
   have a1 := X0.out.bx.c1
   go_wp2_with fail
   refine (refSysValid_c V A n c ls _ (HI.out.1.below X0.out.low)).mono ?_
   rintro e w7 ⟨rfl, hb⟩
   rw [HV.out]
   replace X0 := Lib.hid (X0.out.next hb)
   replace C := Lib.hid (C.out.next hb)
   clear hb a0 a1
   go_upto_region 9 with (fail)
   refine wp_region_held_drew (S := (fun w' => w'.cell? ⟨g, 0, none⟩ = some (.int .i64 V) ∧ w'.cell? ⟨g, 1, none⟩ = some (.slice A n c) ∧ w'.cell? ⟨gc, 0, none⟩ = some (.int .i64 V) ∧ w'.cell? ⟨gc, 1, none⟩ = some (.int .i64 (cntL ls 0 ls.length : Int)) ∧ w'.cell? ⟨gc, 2, none⟩ = some (.int .i64 (cntL ls 1 ls.length : Int)) ∧ w'.cell? ⟨gc, 3, none⟩ = some (.int .i64 (cntL ls 2 ls.length : Int)) ∧ w'.cell? ⟨gc, 4, none⟩ = some (.int .i64 (cntL ls 3 ls.length : Int)) ∧ w'.cell? ⟨gc, 5, none⟩ = some (.int .i64 (degL ls ls.length)))) (by kernel_rfl) (⟨cell_drq X0.out.bx.c0, cell_drq X0.out.bx.c1, cell_drq C.out.c0, cell_drq C.out.c1, cell_drq C.out.c2, cell_drq C.out.c3, cell_drq C.out.c4, cell_drq C.out.c5⟩) (fun hHeld => ?_)
   replace X0 := Lib.hid (X0.out.next (Below.refl w7.heap.size w7).drew)
   replace C := Lib.hid (C.out.next (Below.refl w7.heap.size w7).drew)
   generalize w7.drew = D17 at X0 C hHeld ⊢
   refine tkk 0 53 rfl rfl (by kernel_rfl) (fun _ _ _ _ h => h) (by rfl) (fun w h => by obtain ⟨h0, h1, h2, h3, h4, h5, h6, h7⟩ := h; go_simp; rfl) (by assumption) ?_
   simp only [set0, set1]
   refine tkk 1 54 rfl rfl (by kernel_rfl) (fun _ _ _ _ h => h) (by rfl) (fun w h => by obtain ⟨h0, h1, h2, h3, h4, h5, h6, h7⟩ := h; go_simp; rfl) (by assumption) ?_
   simp only [set0, set1]
   refine tkk 2 55 rfl rfl (by kernel_rfl) (fun _ _ _ _ h => h) (by rfl) (fun w h => by obtain ⟨h0, h1, h2, h3, h4, h5, h6, h7⟩ := h; go_simp; rfl) (by assumption) ?_
   simp only [set0, set1]
   refine tkk 3 56 rfl rfl (by kernel_rfl) (fun _ _ _ _ h => h) (by rfl) (fun w h => by obtain ⟨h0, h1, h2, h3, h4, h5, h6, h7⟩ := h; go_simp; rfl) (by assumption) ?_
   simp only [set0, set1]
   refine tkk 4 57 rfl rfl (by kernel_rfl) (fun _ _ _ _ h => h) (by rfl) (fun w h => by obtain ⟨h0, h1, h2, h3, h4, h5, h6, h7⟩ := h; go_simp; rfl) (by assumption) ?_
   simp only [set0, set1]
   refine wpAnyH_ready (rs := [5]) (by kernel_rfl) (by simp) ?_
   refine AllReadyH.cons rfl (fun K hK => ?_) AllReadyH.nil
   go_simp
   refine (refCounts_c V A n c ls _ (HI.out.1.below X0.out.low) HV.out).mono ?_
   rintro e v18 ⟨rfl, hb⟩
   replace X0 := Lib.hid (X0.out.next hb)
   replace C := Lib.hid (C.out.next hb)
   clear hb hHeld
   unfold cntA
   refine hK.out _ _ (⟨X0.out.bx.c0, X0.out.bx.c1, C.out.c0, C.out.c1, C.out.c2, C.out.c3, C.out.c4, C.out.c5⟩) (fun hHeld => ?_)
   clear hK K
   refine tkk 6 59 rfl rfl (by kernel_rfl) (fun _ _ _ _ h => h) (by rfl) (fun w h => by obtain ⟨h0, h1, h2, h3, h4, h5, h6, h7⟩ := h; go_simp; rfl) (by assumption) ?_
   simp only [set0, set1]
   refine tkk 7 60 rfl rfl (by kernel_rfl) (fun _ _ _ _ h => h) (by rfl) (fun w h => by obtain ⟨h0, h1, h2, h3, h4, h5, h6, h7⟩ := h; go_simp; rfl) (by assumption) ?_
   clear hHeld
   refine wpAnyH_done (by kernel_rfl) ?_ _
   go_wp2_with fail
   refine (refAll_c X nx cx ns _ (HI.out.2.below X0.out.low) HN.out.2).mono ?_
   rintro e w8 ⟨rfl, hb⟩
   rw [← HU.out]
   replace X0 := Lib.hid (X0.out.next hb)
   clear hb C
   have t0 : ((nx : Int) != V) = false := by rw [HM.out]; exact bne_self_eq_false _
   have a0 := X0.out.bx.c0
   go_wp2_with fail
   refine (refNaturals_c X nx cx ns _ (HI.out.2.below X0.out.low) HN.out.2).mono ?_
   rintro e w10 ⟨rfl, hb⟩
   rw [← HN9.out]
   replace X0 := Lib.hid (X0.out.next hb)
   clear hb a0 t0
   go_wp2_with fail
   refine (awake9_c _).mono ?_
   rintro e w9 ⟨rfl, hb⟩
   have P := Lib.hid (X0.out.low.trans (hb.mono X0.out.low.size))
   clear hb
   go_wp2
   go_ret
   exact ⟨rfl, P.out⟩
 | true =>
 obtain ⟨r, k, rfl, hst, hr, -, hb⟩ := hH.val HVU.out (by rw [HL.out.2]; exact hm) HN9.out.symm
 obtain rfl : k = 0 := St.none hst (by rw [HT.out.2 HV.out hm HU.out.symm]; exact pw_lt (by decide))
 obtain rfl := hr rfl
 clear hm hst hr
 obtain ⟨y, hy⟩ : ∃ x, x = holdsB ls ns := ⟨_, rfl⟩
 have HY := Lib.hid hy
 rw [← hy] at hH ⊢
 clear hy hH
 replace X0 := Lib.hid (X0.out.next hb)
 replace C := Lib.hid (C.out.next hb)
 clear hb
 go_upto_region 5 with (fail)
 refine wp_region_held_drew (S := (fun w' => w'.cell? ⟨g, 0, none⟩ = some (.int .i64 V) ∧ w'.cell? ⟨g, 1, none⟩ = some (.slice A n c))) (by kernel_rfl) (⟨cell_drq X0.out.bx.c0, cell_drq X0.out.bx.c1⟩) (fun hHeld => ?_)
 replace X0 := Lib.hid (X0.out.next (Below.refl w4.heap.size w4).drew)
 replace C := Lib.hid (C.out.next (Below.refl w4.heap.size w4).drew)
 generalize w4.drew = D19 at X0 C hHeld ⊢
 refine tkk 0 27 rfl rfl (by kernel_rfl) (fun _ _ _ _ h => h) (by rfl) (fun w h => by obtain ⟨h0, h1⟩ := h; go_simp; rfl) (by assumption) ?_
 simp only [set0, set1]
 refine tkk 2 29 rfl rfl (by kernel_rfl) (fun _ _ _ _ h => h) (by rfl) (fun w h => by obtain ⟨h0, h1⟩ := h; go_simp; rfl) (by assumption) ?_
 simp only [set0, set1]
 refine wpAnyH_ready (rs := [1]) (by kernel_rfl) (by simp) ?_
 refine AllReadyH.cons rfl (fun K hK => ?_) AllReadyH.nil
 go_simp
 refine (sysValid_c V A n c ls _ (HI.out.1.below X0.out.low)).mono ?_
 rintro e v20 ⟨rfl, hb⟩
 rw [HV.out]
 replace X0 := Lib.hid (X0.out.next hb)
 replace C := Lib.hid (C.out.next hb)
 clear hb hHeld
 refine hK.out _ _ (⟨X0.out.bx.c0, X0.out.bx.c1⟩) (fun hHeld => ?_)
 clear hK K
 refine wpAnyH_ready (rs := [3]) (by kernel_rfl) (by simp) ?_
 refine AllReadyH.cons rfl (fun K hK => ?_) AllReadyH.nil
 go_simp
 refine (refSysValid_c V A n c ls _ (HI.out.1.below X0.out.low)).mono ?_
 rintro e v21 ⟨rfl, hb⟩
 rw [HV.out]
 replace X0 := Lib.hid (X0.out.next hb)
 replace C := Lib.hid (C.out.next hb)
 clear hb hHeld
 refine hK.out _ _ (⟨X0.out.bx.c0, X0.out.bx.c1⟩) (fun hHeld => ?_)
 clear hK K
 refine tkk 4 31 rfl rfl (by kernel_rfl) (fun _ _ _ _ h => h) (by rfl) (fun w h => by obtain ⟨h0, h1⟩ := h; go_simp; rfl) (by assumption) ?_
 clear hHeld
 refine wpAnyH_done (by kernel_rfl) ?_ _
 have a0 := X0.out.bx.c0
 have a1 := X0.out.bx.c1
 go_wp2_with fail
 refine (refSysValid_c V A n c ls _ (HI.out.1.below X0.out.low)).mono ?_
 rintro e w7 ⟨rfl, hb⟩
 rw [HV.out]
 replace X0 := Lib.hid (X0.out.next hb)
 replace C := Lib.hid (C.out.next hb)
 clear hb a0 a1
 go_upto_region 9 with (fail)
 refine wp_region_held_drew (S := (fun w' => w'.cell? ⟨g, 0, none⟩ = some (.int .i64 V) ∧ w'.cell? ⟨g, 1, none⟩ = some (.slice A n c) ∧ w'.cell? ⟨gc, 0, none⟩ = some (.int .i64 V) ∧ w'.cell? ⟨gc, 1, none⟩ = some (.int .i64 (cntL ls 0 ls.length : Int)) ∧ w'.cell? ⟨gc, 2, none⟩ = some (.int .i64 (cntL ls 1 ls.length : Int)) ∧ w'.cell? ⟨gc, 3, none⟩ = some (.int .i64 (cntL ls 2 ls.length : Int)) ∧ w'.cell? ⟨gc, 4, none⟩ = some (.int .i64 (cntL ls 3 ls.length : Int)) ∧ w'.cell? ⟨gc, 5, none⟩ = some (.int .i64 (degL ls ls.length)))) (by kernel_rfl) (⟨cell_drq X0.out.bx.c0, cell_drq X0.out.bx.c1, cell_drq C.out.c0, cell_drq C.out.c1, cell_drq C.out.c2, cell_drq C.out.c3, cell_drq C.out.c4, cell_drq C.out.c5⟩) (fun hHeld => ?_)
 replace X0 := Lib.hid (X0.out.next (Below.refl w7.heap.size w7).drew)
 replace C := Lib.hid (C.out.next (Below.refl w7.heap.size w7).drew)
 generalize w7.drew = D22 at X0 C hHeld ⊢
 refine tkk 0 53 rfl rfl (by kernel_rfl) (fun _ _ _ _ h => h) (by rfl) (fun w h => by obtain ⟨h0, h1, h2, h3, h4, h5, h6, h7⟩ := h; go_simp; rfl) (by assumption) ?_
 simp only [set0, set1]
 refine tkk 1 54 rfl rfl (by kernel_rfl) (fun _ _ _ _ h => h) (by rfl) (fun w h => by obtain ⟨h0, h1, h2, h3, h4, h5, h6, h7⟩ := h; go_simp; rfl) (by assumption) ?_
 simp only [set0, set1]
 refine tkk 2 55 rfl rfl (by kernel_rfl) (fun _ _ _ _ h => h) (by rfl) (fun w h => by obtain ⟨h0, h1, h2, h3, h4, h5, h6, h7⟩ := h; go_simp; rfl) (by assumption) ?_
 simp only [set0, set1]
 refine tkk 3 56 rfl rfl (by kernel_rfl) (fun _ _ _ _ h => h) (by rfl) (fun w h => by obtain ⟨h0, h1, h2, h3, h4, h5, h6, h7⟩ := h; go_simp; rfl) (by assumption) ?_
 simp only [set0, set1]
 refine tkk 4 57 rfl rfl (by kernel_rfl) (fun _ _ _ _ h => h) (by rfl) (fun w h => by obtain ⟨h0, h1, h2, h3, h4, h5, h6, h7⟩ := h; go_simp; rfl) (by assumption) ?_
 simp only [set0, set1]
 refine wpAnyH_ready (rs := [5]) (by kernel_rfl) (by simp) ?_
 refine AllReadyH.cons rfl (fun K hK => ?_) AllReadyH.nil
 go_simp
 refine (refCounts_c V A n c ls _ (HI.out.1.below X0.out.low) HV.out).mono ?_
 rintro e v23 ⟨rfl, hb⟩
 replace X0 := Lib.hid (X0.out.next hb)
 replace C := Lib.hid (C.out.next hb)
 clear hb hHeld
 unfold cntA
 refine hK.out _ _ (⟨X0.out.bx.c0, X0.out.bx.c1, C.out.c0, C.out.c1, C.out.c2, C.out.c3, C.out.c4, C.out.c5⟩) (fun hHeld => ?_)
 clear hK K
 refine tkk 6 59 rfl rfl (by kernel_rfl) (fun _ _ _ _ h => h) (by rfl) (fun w h => by obtain ⟨h0, h1, h2, h3, h4, h5, h6, h7⟩ := h; go_simp; rfl) (by assumption) ?_
 simp only [set0, set1]
 refine tkk 7 60 rfl rfl (by kernel_rfl) (fun _ _ _ _ h => h) (by rfl) (fun w h => by obtain ⟨h0, h1, h2, h3, h4, h5, h6, h7⟩ := h; go_simp; rfl) (by assumption) ?_
 clear hHeld
 refine wpAnyH_done (by kernel_rfl) ?_ _
 go_wp2_with fail
 refine (refAll_c X nx cx ns _ (HI.out.2.below X0.out.low) HN.out.2).mono ?_
 rintro e w8 ⟨rfl, hb⟩
 rw [← HU.out]
 replace X0 := Lib.hid (X0.out.next hb)
 clear hb C
 have t0 : ((nx : Int) != V) = false := by rw [HM.out]; exact bne_self_eq_false _
 have a0 := X0.out.bx.c0
 go_wp2_with fail
 refine (refNaturals_c X nx cx ns _ (HI.out.2.below X0.out.low) HN.out.2).mono ?_
 rintro e w10 ⟨rfl, hb⟩
 rw [← HN9.out]
 replace X0 := Lib.hid (X0.out.next hb)
 clear hb a0 t0
 have a0 := X0.out.bx.c0
 have a1 := X0.out.bx.c1
 go_wp2_with fail
 refine (refHolds_c V A n c ls X nx cx ns _ (HI.out.1.below X0.out.low) (HI.out.2.below X0.out.low) HV.out HU.out.symm HM.out (fun i hi => ok_short fun j hj => by
  have h1 := HT.out.1 i hi j hj
  rw [HT.out.2 HV.out HM.out HU.out.symm] at h1
  exact h1)).mono ?_
 rintro e w5 ⟨rfl, hb⟩
 rw [← HY.out]
 replace X0 := Lib.hid (X0.out.next hb)
 clear hb a0 a1
 go_wp2_with fail
 refine (awake9_c _).mono ?_
 rintro e w9 ⟨rfl, hb⟩
 have P := Lib.hid (X0.out.low.trans (hb.mono X0.out.low.size))
 clear hb
 go_wp2
 go_ret
 exact ⟨rfl, P.out⟩
end Go.Proofs.YteabokkofoomkaaGreat
/-
 Proved: for every system and every list of numbers, valid or not, the law SystemHolds of the ninth stage returns true and leaves its arguments as they were: where they are not too great to be looked at, Valid, Counts and Holds return what is documented, or the documented errors; the example of the chapter holds. No condition.
-/
namespace Go.Proofs.YteabokkofoomkaaGreat.systemHolds
open Go.ChangeShapes Go.WideShapes Go.ChangeAt Go.RowKit
theorem own : ownKnob Tryz.prog.godebug = none := by kernel_rfl
set_option maxRecDepth 100000 in
theorem lifted (os : Os) (started : os.Started) (H : Type) (enc : TypeId × Value → H) :
 ReturnsInHanded {} Tryz.checked os 3 .any (Rows.systemHoldsSpec.pre6 enc Tryz.prog Tryz.f3 Rows.systemHoldsRow.domain false) (Rows.systemHoldsSpec.post enc Tryz.prog Tryz.f3 false true false false) := by
 refine returnsInHanded_of_change (C := Tryz.checked) own started (by kernel_rfl) Tryz.func3
  (ChangeSpec.witness6 (enc := enc) (C := Tryz.checked) false ⟨#[], #[.agg #[.int .i64 0, .slice none 0 0], .slice none 0 0], []⟩ 8 (by kernel_rfl) (by kernel_rfl) (by kernel_rfl) (by kernel_rfl)) ?_
 intro W base args ds gs before hval0 hW _ _
 have hval : ∀ (j : Nat) t v, Tryz.f3.params[j]? = some t → args[j]? = some v → Value.okWide Tryz.prog W .any base t v := hval0
 have hW' := hW
 obtain ⟨p, q, hA0, hV, rfl, _, _⟩ := hW
 have hA : DataW.TrodAll enc Tryz.prog W 0 (fun _ => true) true Tryz.f3.params.toList args.toList ds p := hA0
 rw [Tryz.params3] at hA hval
 obtain ⟨v0, vs0, d0, ds0, p0, q0, hargs, rfl, rfl, h0, r0⟩ := trodAll_cons hA
 obtain ⟨v1, vs1, d1, ds1, p1, q1, rfl, rfl, rfl, h1, r1⟩ := trodAll_cons r0
 obtain ⟨rfl, rfl, rfl⟩ := trodAll_nil r1
 obtain rfl : args = #[v0, v1] := by cases args; simp_all
 obtain ⟨rfl, rfl⟩ := trodVars_none hV
 simp only [List.append_nil] at hW'
 have lt := hW'.lt
 obtain ⟨V0, A0, n0, c0, ls0, rfl, rd0, nc0, cm0⟩ := open_system (hval 0 24 v0 rfl rfl) h0
 obtain ⟨A1, n1, c1, ns1, rfl, rd1, nc1, cm1⟩ := open_nums (hval 1 25 v1 rfl rfl) h1
 clear hA0 hval0
 refine (SystemHolds_c V0 A0 n0 c0 ls0 A1 n1 c1 ns1 W rd0 nc0 cm0 rd1 nc1 cm1).mono fun e W' ⟨he, hg⟩ => ?_
 subst he
 refine ⟨_, rfl, post_below (pv := []) hW' hg (fun _ _ _ => (trodAll_cons_mk (shut_bool Tryz.underlying4 _) trodAll_mk0)) (fun sp hs => (trodAll_cons_mk (keep_system h0 hg (fun x hx => lt x (by simp [hx])) (fun x hx => hs x (by simp [hx]))) (trodAll_cons_mk (keep_nums h1 hg (fun x hx => lt x (by simp [hx])) (fun x hx => hs x (by simp [hx]))) trodAll_mk0))) (fun _ _ => rfl) ?_
  (ok_one (by kernel_rfl) rfl (okWide_bool_mk Tryz.underlying4 _))⟩
 simp
theorem over : Rows.systemHoldsRow.holds Tryz.pinned (OpenSpec.ofChange Rows.systemHoldsSpec) :=
 OpenClaim.holds_of_wide 3 Tryz.f3 rfl rfl rfl rfl rfl rfl rfl ⟨rfl, rfl, rfl, rfl, rfl⟩ rfl rfl rfl rfl rfl (by kernel_rfl) Tryz.func3 (by kernel_rfl)
  (of_decide_eq_true (by kernel_rfl)) (by unfold Func.isWrapper; first | (rw [if_pos (by decide +kernel)]; kernel_rfl) | (rw [if_neg (by decide +kernel)]; exact ⟨rfl, rfl⟩))
  (fun os started H enc _ => lifted os started H enc)
/-- the statement -/
theorem proved : Rows.SystemHoldsSaid :=
 over
#print axioms proved
end Go.Proofs.YteabokkofoomkaaGreat.systemHolds

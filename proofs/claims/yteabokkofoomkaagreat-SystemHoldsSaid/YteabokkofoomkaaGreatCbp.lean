import Derived.Test.YteabokkofoomkaaGreatCak
import Derived.Test.YteabokkofoomkaaGreatCbo
import Derived.Test.YteabokkofoomkaaGreatCbh
import Derived.Test.YteabokkofoomkaaGreatCai
import Derived.Deep.DeepCutAuto
set_option maxRecDepth 100000
namespace Go.Proofs.YteabokkofoomkaaGreat
open Go.RowKit Go.Shelf Go.Deep
theorem Box.far9 {W : World} {g : Nat} {z : Int} {t : Bool} {A : Option Addr} {n c : Nat} (h : Box W g z t A n c) {g' : Nat} (hne : g' ≠ g) {x : Bool} {a : Option Addr} {i j : Nat} (h0 : W.cell? ⟨g', 0, none⟩ = some (.bool x)) (h1 : W.cell? ⟨g', 1, none⟩ = some (.slice a i j)) (u v : Value) : Box ((W.setCell ⟨g', 0, none⟩ u).setCell ⟨g', 1, none⟩ v) g z t A n c :=
 ⟨by rw [size_pair]; exact h.lt, cell_two hne h.c0, cell_two hne h.c1, h.is.store h0 h1 u v⟩
section
variable {w W W' : World} {a : Int} {t0 : Bool} {A0 : Option Addr} {n0 c0 : Nat} {b : Int} {t1 : Bool} {A1 : Option Addr} {n1 c1 : Nat} {c : Int} {t2 : Bool} {A2 : Option Addr} {n2 c2 : Nat}
theorem B3.far (h : B3 w W a t0 A0 n0 c0 b t1 A1 n1 c1 c t2 A2 n2 c2) {g' : Nat} (hg : w.heap.size + 1 + 1 < g') {x : Bool} {p : Option Addr} {i j : Nat} (h0 : W.cell? ⟨g', 0, none⟩ = some (.bool x)) (h1 : W.cell? ⟨g', 1, none⟩ = some (.slice p i j)) (u v : Value) : B3 w ((W.setCell ⟨g', 0, none⟩ u).setCell ⟨g', 1, none⟩ v) a t0 A0 n0 c0 b t1 A1 n1 c1 c t2 A2 n2 c2 :=
 ⟨below_store h.low (by omega) _ _, h.ba.far9 (by omega) h0 h1 u v, h.bb.far9 (by omega) h0 h1 u v, h.bc.far9 (by omega) h0 h1 u v⟩
structure PI (w W : World) (a : Int) (t0 : Bool) (A0 : Option Addr) (n0 c0 : Nat) (b : Int) (t1 : Bool) (A1 : Option Addr) (n1 c1 : Nat) (c : Int) (t2 : Bool) (A2 : Option Addr) (n2 c2 : Nat) (g9 g10 : Nat) (p : Int) (t9 : Bool) (A9 : Option Addr) (n9 c9 : Nat) (q : Int) (t10 : Bool) (A10 : Option Addr) (n10 c10 : Nat) : Prop where
 e : B3 w W a t0 A0 n0 c0 b t1 A1 n1 c1 c t2 A2 n2 c2
 b9 : Nvr W g9 p t9 A9 n9 c9
 b10 : Nvr W g10 q t10 A10 n10 c10
theorem PI.next {g9 g10 : Nat} {p : Int} {t9 : Bool} {A9 : Option Addr} {n9 c9 : Nat} {q : Int} {t10 : Bool} {A10 : Option Addr} {n10 c10 : Nat} (h : PI w W a t0 A0 n0 c0 b t1 A1 n1 c1 c t2 A2 n2 c2 g9 g10 p t9 A9 n9 c9 q t10 A10 n10 c10) (hb : Below W.heap.size W W') : PI w W' a t0 A0 n0 c0 b t1 A1 n1 c1 c t2 A2 n2 c2 g9 g10 p t9 A9 n9 c9 q t10 A10 n10 c10 :=
 ⟨h.e.next hb, h.b9.next hb, h.b10.next hb⟩
end
theorem len_two9 {w : World} {t : Bool} {A : Option Addr} {n c : Nat} (h : Is w 2 t A n c) : n ≤ 1 := by
 rw [h.2.1]
 exact words_len_le.2 (by rw [pw_two]; decide)
theorem psi_sizes {a y : Int} (ha : 2 ≤ a) (hs : Sz a 4096) (hy : Sz y 4096) {i : Nat} (h : psi a i ≤ y) : Sz (psi a i) 4096 ∧ Sz (psi a (i + 1)) 8194 ∧ Sz (a + a) 4097 ∧ Sz ((a + a) * psi a (i + 1)) 12291 := by
 have h1 := psi_nn ha i
 have s1 : Sz (psi a i) 4096 := sz_of_le' h1 h hy
 have s2 : Sz (a + a) 4097 := hs.add hs
 have s3 : Sz (psi a (i + 1)) 8194 := by
  refine sz_of_le' (psi_nn ha (i + 1)) (psi_step ha i) ?_
  have s4 : Sz (2 * a * psi a i) 8193 := by
   rw [show 2 * a = a + a by omega]
   exact s2.mul s1
  exact s4.add (sz_one' (by omega))
 exact ⟨s1, s3, s2, s2.mul s3⟩
theorem psi_one9 (a : Int) : psi a 1 = 1 := rfl
theorem psi_two9 (a : Int) : psi a 2 = a + a := by
 rw [psi_two]
 show 2 * a * 1 - 0 = a + a
 omega
set_option maxHeartbeats 16000000 in
theorem refIsPsi_c {w : World} {a : Int} {t0 : Bool} {A0 : Option Addr} {n0 c0 : Nat} {b : Int} {t1 : Bool} {A1 : Option Addr} {n1 c1 : Nat} {c : Int} {t2 : Bool} {A2 : Option Addr} {n2 c2 : Nat} (h0 : Iv w a t0 A0 n0 c0) (h1 : Iv w b t1 A1 n1 c1) (h2 : Iv w c t2 A2 n2 c2) :
 Calls Tryz.prog 44 #[.agg #[.bool t0, .slice A0 n0 c0], .agg #[.bool t1, .slice A1 n1 c1], .agg #[.bool t2, .slice A2 n2 c2]] w (IsB (linkZ 1 a b c) w) := by
 have E := Lib.hid (B3.start h0.is h1.is h2.is)
 have HS := Lib.hid (And.intro h0.sz (And.intro h1.sz h2.sz))
 have HL := Lib.hid (show n0 ≤ 4096 ∧ n1 ≤ 4096 ∧ n2 ≤ 4096 from ⟨h0.is.len h0.sz, h1.is.len h1.sz, h2.is.len h2.sz⟩)
 clear h0 h1 h2
 go_enter Tryz.func44, Tryz.ntmps44
 go_upto_region 1 with (fail)
 generalize ((w.alloc (.cells #[.bool t0, .slice A0 n0 c0] 58)).alloc (.cells #[.bool t1, .slice A1 n1 c1] 58)).alloc (.cells #[.bool t2, .slice A2 n2 c2] 58) = W0 at E ⊢
 have x0 := E.out.bb.c0
 have x1 := E.out.bb.c1
 go_wp2_with fail
 refine (refFew_c E.out.bb.is (by have := HL.out.2.1; omega)).mono ?_
 rintro e w5 ⟨m, rfl, hm, hb⟩
 replace E := Lib.hid (E.out.next hb)
 obtain ⟨u, hu⟩ : ∃ v, v = fewB b := ⟨_, rfl⟩
 rw [← hu] at hm ⊢
 have HU := Lib.hid hu
 have HM := Lib.hid hm
 clear hb x0 x1 hu hm
 obtain ⟨o, ho⟩ : ∃ o, o = ord a 2 := ⟨_, rfl⟩
 have HO := Lib.hid ho
 by_cases qa : a < 2
 · have tq : decide (o < 0) = true := by rw [ho, ord_lt qa]; rfl
   clear ho
   have HF := Lib.hid (isPsi_no (a := a) (b := b) (c := c) HS.out.2.2 (.inl qa))
   clear qa
   go_upto_region 2 with (fail)
   refine wp_region_held_drew (S := (fun w' => w'.cell? ⟨w.heap.size, 0, none⟩ = some (.bool t0) ∧ w'.cell? ⟨w.heap.size, 1, none⟩ = some (.slice A0 n0 c0))) (by kernel_rfl) (⟨cell_drq E.out.ba.c0, cell_drq E.out.ba.c1⟩) (fun hHeld => ?_)
   replace E := Lib.hid (E.out.next (Below.refl w5.heap.size w5).drew)
   generalize w5.drew = D1 at E hHeld ⊢
   refine tkk 0 17 rfl rfl (by kernel_rfl) (fun _ _ _ _ h => h) (by rfl) (fun w h => by obtain ⟨h0, h1⟩ := h; go_simp; rfl) (by assumption) ?_
   simp only [set0, set1]
   refine wpAnyH_ready (rs := [1]) (by kernel_rfl) (by simp) ?_
   refine AllReadyH.cons rfl (fun K hK => ?_) AllReadyH.nil
   go_simp
   refine (refOf_c 2 D1 (by omega) (by omega)).mono ?_
   rintro e v2 hq
   obtain ⟨tO, AO, nO, cO, rfl, iO, hb⟩ := hq.numI
   replace E := Lib.hid (E.out.next hb)
   have IO := Lib.hid iO
   clear hb hq iO hHeld
   refine hK.out _ _ (⟨E.out.ba.c0, E.out.ba.c1⟩) (fun hHeld => ?_)
   clear hK K
   refine wpAnyH_ready (rs := [2]) (by kernel_rfl) (by simp) ?_
   refine AllReadyH.cons rfl (fun K hK => ?_) AllReadyH.nil
   go_simp
   refine (refCmp_c E.out.ba.is IO.out (by have := HL.out.1; omega) (by have := len_two9 IO.out; omega)).mono ?_
   rintro e v3 ⟨rfl, hb⟩
   rw [← HO.out]
   replace E := Lib.hid (E.out.next hb)
   replace IO := Lib.hid (IO.out.below hb)
   clear hb hHeld
   refine hK.out _ _ (⟨E.out.ba.c0, E.out.ba.c1⟩) (fun hHeld => ?_)
   clear hK K
   refine tkk 3 20 rfl rfl (by kernel_rfl) (fun _ _ _ _ h => h) (by rfl) (fun w h => by obtain ⟨h0, h1⟩ := h; go_simp; rfl) (by assumption) ?_
   simp only [set0, set1]
   refine tkk 4 21 rfl rfl (by kernel_rfl) (fun _ _ _ _ h => h) (by rfl) (fun w h => by obtain ⟨h0, h1⟩ := h; go_simp; rfl) (by assumption) ?_
   simp only [set0, set1]
   refine tff 5 22 rfl rfl (by kernel_rfl) (fun _ _ _ _ h => h) (by rfl) (by assumption) ?_
   simp only [set0, set1]
   refine tff 6 23 rfl rfl (by kernel_rfl) (fun _ _ _ _ h => h) (by rfl) (by assumption) ?_
   simp only [set0, set1]
   refine tkk 7 24 rfl rfl (by kernel_rfl) (fun _ _ _ _ h => h) (by rfl) (fun w h => by obtain ⟨h0, h1⟩ := h; go_simp; rfl) (by assumption) ?_
   simp only [set0, set1]
   refine tkk 8 25 rfl rfl (by kernel_rfl) (fun _ _ _ _ h => h) (by rfl) (fun w h => by obtain ⟨h0, h1⟩ := h; go_simp; rfl) (by assumption) ?_
   simp only [set0, set1]
   refine tff 9 26 rfl rfl (by kernel_rfl) (fun _ _ _ _ h => h) (by rfl) (by assumption) ?_
   simp only [set0, set1]
   refine tff 10 27 rfl rfl (by kernel_rfl) (fun _ _ _ _ h => h) (by rfl) (by assumption) ?_
   simp only [set0, set1]
   refine tkk 11 28 rfl rfl (by kernel_rfl) (fun _ _ _ _ h => h) (by rfl) (fun w h => by obtain ⟨h0, h1⟩ := h; go_simp; rfl) (by assumption) ?_
   clear hHeld
   refine wpAnyH_done (by kernel_rfl) ?_ _
   go_wp2
   go_ret
   rw [HF.out]
   exact ⟨rfl, E.out.low⟩
 have tq : decide (o < 0) = false := decide_eq_false (by have := ord_ge9 qa; omega)
 clear ho
 have HA := Lib.hid (show 2 ≤ a by omega)
 clear qa
 cases u with
 | false =>
   have HF := Lib.hid (isPsi_no (a := a) (b := b) (c := c) HS.out.2.2 (.inr (.inl HU.out.symm)))
   go_upto_region 2 with (fail)
   refine wp_region_held_drew (S := (fun w' => w'.cell? ⟨w.heap.size, 0, none⟩ = some (.bool t0) ∧ w'.cell? ⟨w.heap.size, 1, none⟩ = some (.slice A0 n0 c0))) (by kernel_rfl) (⟨cell_drq E.out.ba.c0, cell_drq E.out.ba.c1⟩) (fun hHeld => ?_)
   replace E := Lib.hid (E.out.next (Below.refl w5.heap.size w5).drew)
   generalize w5.drew = D4 at E hHeld ⊢
   refine tkk 0 17 rfl rfl (by kernel_rfl) (fun _ _ _ _ h => h) (by rfl) (fun w h => by obtain ⟨h0, h1⟩ := h; go_simp; rfl) (by assumption) ?_
   simp only [set0, set1]
   refine wpAnyH_ready (rs := [1]) (by kernel_rfl) (by simp) ?_
   refine AllReadyH.cons rfl (fun K hK => ?_) AllReadyH.nil
   go_simp
   refine (refOf_c 2 D4 (by omega) (by omega)).mono ?_
   rintro e v5 hq
   obtain ⟨tO, AO, nO, cO, rfl, iO, hb⟩ := hq.numI
   replace E := Lib.hid (E.out.next hb)
   have IO := Lib.hid iO
   clear hb hq iO hHeld
   refine hK.out _ _ (⟨E.out.ba.c0, E.out.ba.c1⟩) (fun hHeld => ?_)
   clear hK K
   refine wpAnyH_ready (rs := [2]) (by kernel_rfl) (by simp) ?_
   refine AllReadyH.cons rfl (fun K hK => ?_) AllReadyH.nil
   go_simp
   refine (refCmp_c E.out.ba.is IO.out (by have := HL.out.1; omega) (by have := len_two9 IO.out; omega)).mono ?_
   rintro e v6 ⟨rfl, hb⟩
   rw [← HO.out]
   replace E := Lib.hid (E.out.next hb)
   replace IO := Lib.hid (IO.out.below hb)
   clear hb hHeld
   refine hK.out _ _ (⟨E.out.ba.c0, E.out.ba.c1⟩) (fun hHeld => ?_)
   clear hK K
   refine tkk 3 20 rfl rfl (by kernel_rfl) (fun _ _ _ _ h => h) (by rfl) (fun w h => by obtain ⟨h0, h1⟩ := h; go_simp; rfl) (by assumption) ?_
   simp only [set0, set1]
   refine tkk 4 21 rfl rfl (by kernel_rfl) (fun _ _ _ _ h => h) (by rfl) (fun w h => by obtain ⟨h0, h1⟩ := h; go_simp; rfl) (by assumption) ?_
   simp only [set0, set1]
   refine tkk 5 22 rfl rfl (by kernel_rfl) (fun _ _ _ _ h => h) (by rfl) (fun w h => by obtain ⟨h0, h1⟩ := h; go_simp; rfl) (by assumption) ?_
   simp only [set0, set1]
   refine tkk 6 23 rfl rfl (by kernel_rfl) (fun _ _ _ _ h => h) (by rfl) (fun w h => by obtain ⟨h0, h1⟩ := h; go_simp; rfl) (by assumption) ?_
   simp only [set0, set1]
   refine tkk 7 24 rfl rfl (by kernel_rfl) (fun _ _ _ _ h => h) (by rfl) (fun w h => by obtain ⟨h0, h1⟩ := h; go_simp; rfl) (by assumption) ?_
   simp only [set0, set1]
   refine tkk 8 25 rfl rfl (by kernel_rfl) (fun _ _ _ _ h => h) (by rfl) (fun w h => by obtain ⟨h0, h1⟩ := h; go_simp; rfl) (by assumption) ?_
   simp only [set0, set1]
   refine tff 9 26 rfl rfl (by kernel_rfl) (fun _ _ _ _ h => h) (by rfl) (by assumption) ?_
   simp only [set0, set1]
   refine tff 10 27 rfl rfl (by kernel_rfl) (fun _ _ _ _ h => h) (by rfl) (by assumption) ?_
   simp only [set0, set1]
   refine tkk 11 28 rfl rfl (by kernel_rfl) (fun _ _ _ _ h => h) (by rfl) (fun w h => by obtain ⟨h0, h1⟩ := h; go_simp; rfl) (by assumption) ?_
   clear hHeld
   refine wpAnyH_done (by kernel_rfl) ?_ _
   go_wp2
   go_ret
   rw [HF.out]
   exact ⟨rfl, E.out.low⟩
 | true =>
 obtain rfl : m = b := HM.out rfl
 by_cases qb : m < 1
 · have tb : decide (m < 1) = true := decide_eq_true qb
   have HF := Lib.hid (isPsi_no (a := a) (b := m) (c := c) HS.out.2.2 (.inr (.inr qb)))
   clear qb
   go_upto_region 2 with (fail)
   refine wp_region_held_drew (S := (fun w' => w'.cell? ⟨w.heap.size, 0, none⟩ = some (.bool t0) ∧ w'.cell? ⟨w.heap.size, 1, none⟩ = some (.slice A0 n0 c0))) (by kernel_rfl) (⟨cell_drq E.out.ba.c0, cell_drq E.out.ba.c1⟩) (fun hHeld => ?_)
   replace E := Lib.hid (E.out.next (Below.refl w5.heap.size w5).drew)
   generalize w5.drew = D7 at E hHeld ⊢
   refine tkk 0 17 rfl rfl (by kernel_rfl) (fun _ _ _ _ h => h) (by rfl) (fun w h => by obtain ⟨h0, h1⟩ := h; go_simp; rfl) (by assumption) ?_
   simp only [set0, set1]
   refine wpAnyH_ready (rs := [1]) (by kernel_rfl) (by simp) ?_
   refine AllReadyH.cons rfl (fun K hK => ?_) AllReadyH.nil
   go_simp
   refine (refOf_c 2 D7 (by omega) (by omega)).mono ?_
   rintro e v8 hq
   obtain ⟨tO, AO, nO, cO, rfl, iO, hb⟩ := hq.numI
   replace E := Lib.hid (E.out.next hb)
   have IO := Lib.hid iO
   clear hb hq iO hHeld
   refine hK.out _ _ (⟨E.out.ba.c0, E.out.ba.c1⟩) (fun hHeld => ?_)
   clear hK K
   refine wpAnyH_ready (rs := [2]) (by kernel_rfl) (by simp) ?_
   refine AllReadyH.cons rfl (fun K hK => ?_) AllReadyH.nil
   go_simp
   refine (refCmp_c E.out.ba.is IO.out (by have := HL.out.1; omega) (by have := len_two9 IO.out; omega)).mono ?_
   rintro e v9 ⟨rfl, hb⟩
   rw [← HO.out]
   replace E := Lib.hid (E.out.next hb)
   replace IO := Lib.hid (IO.out.below hb)
   clear hb hHeld
   refine hK.out _ _ (⟨E.out.ba.c0, E.out.ba.c1⟩) (fun hHeld => ?_)
   clear hK K
   refine tkk 3 20 rfl rfl (by kernel_rfl) (fun _ _ _ _ h => h) (by rfl) (fun w h => by obtain ⟨h0, h1⟩ := h; go_simp; rfl) (by assumption) ?_
   simp only [set0, set1]
   refine tkk 4 21 rfl rfl (by kernel_rfl) (fun _ _ _ _ h => h) (by rfl) (fun w h => by obtain ⟨h0, h1⟩ := h; go_simp; rfl) (by assumption) ?_
   simp only [set0, set1]
   refine tkk 5 22 rfl rfl (by kernel_rfl) (fun _ _ _ _ h => h) (by rfl) (fun w h => by obtain ⟨h0, h1⟩ := h; go_simp; rfl) (by assumption) ?_
   simp only [set0, set1]
   refine tkk 6 23 rfl rfl (by kernel_rfl) (fun _ _ _ _ h => h) (by rfl) (fun w h => by obtain ⟨h0, h1⟩ := h; go_simp; rfl) (by assumption) ?_
   simp only [set0, set1]
   refine tkk 7 24 rfl rfl (by kernel_rfl) (fun _ _ _ _ h => h) (by rfl) (fun w h => by obtain ⟨h0, h1⟩ := h; go_simp; rfl) (by assumption) ?_
   simp only [set0, set1]
   refine tkk 8 25 rfl rfl (by kernel_rfl) (fun _ _ _ _ h => h) (by rfl) (fun w h => by obtain ⟨h0, h1⟩ := h; go_simp; rfl) (by assumption) ?_
   simp only [set0, set1]
   refine tkk 9 26 rfl rfl (by kernel_rfl) (fun _ _ _ _ h => h) (by rfl) (fun w h => by obtain ⟨h0, h1⟩ := h; go_simp; rfl) (by assumption) ?_
   simp only [set0, set1]
   refine tkk 10 27 rfl rfl (by kernel_rfl) (fun _ _ _ _ h => h) (by rfl) (fun w h => by obtain ⟨h0, h1⟩ := h; go_simp; rfl) (by assumption) ?_
   simp only [set0, set1]
   refine tkk 11 28 rfl rfl (by kernel_rfl) (fun _ _ _ _ h => h) (by rfl) (fun w h => by obtain ⟨h0, h1⟩ := h; go_simp; rfl) (by assumption) ?_
   clear hHeld
   refine wpAnyH_done (by kernel_rfl) ?_ _
   go_wp2
   go_ret
   rw [HF.out]
   exact ⟨rfl, E.out.low⟩
 have tb : decide (m < 1) = false := decide_eq_false qb
 have HNN := Lib.hid (show 1 ≤ m by omega)
 go_upto_region 2 with (fail)
 refine wp_region_held_drew (S := (fun w' => w'.cell? ⟨w.heap.size, 0, none⟩ = some (.bool t0) ∧ w'.cell? ⟨w.heap.size, 1, none⟩ = some (.slice A0 n0 c0))) (by kernel_rfl) (⟨cell_drq E.out.ba.c0, cell_drq E.out.ba.c1⟩) (fun hHeld => ?_)
 replace E := Lib.hid (E.out.next (Below.refl w5.heap.size w5).drew)
 generalize w5.drew = D10 at E hHeld ⊢
 refine tkk 0 17 rfl rfl (by kernel_rfl) (fun _ _ _ _ h => h) (by rfl) (fun w h => by obtain ⟨h0, h1⟩ := h; go_simp; rfl) (by assumption) ?_
 simp only [set0, set1]
 refine wpAnyH_ready (rs := [1]) (by kernel_rfl) (by simp) ?_
 refine AllReadyH.cons rfl (fun K hK => ?_) AllReadyH.nil
 go_simp
 refine (refOf_c 2 D10 (by omega) (by omega)).mono ?_
 rintro e v11 hq
 obtain ⟨tO, AO, nO, cO, rfl, iO, hb⟩ := hq.numI
 replace E := Lib.hid (E.out.next hb)
 have IO := Lib.hid iO
 clear hb hq iO hHeld
 refine hK.out _ _ (⟨E.out.ba.c0, E.out.ba.c1⟩) (fun hHeld => ?_)
 clear hK K
 refine wpAnyH_ready (rs := [2]) (by kernel_rfl) (by simp) ?_
 refine AllReadyH.cons rfl (fun K hK => ?_) AllReadyH.nil
 go_simp
 refine (refCmp_c E.out.ba.is IO.out (by have := HL.out.1; omega) (by have := len_two9 IO.out; omega)).mono ?_
 rintro e v12 ⟨rfl, hb⟩
 rw [← HO.out]
 replace E := Lib.hid (E.out.next hb)
 replace IO := Lib.hid (IO.out.below hb)
 clear hb hHeld
 refine hK.out _ _ (⟨E.out.ba.c0, E.out.ba.c1⟩) (fun hHeld => ?_)
 clear hK K
 refine tkk 3 20 rfl rfl (by kernel_rfl) (fun _ _ _ _ h => h) (by rfl) (fun w h => by obtain ⟨h0, h1⟩ := h; go_simp; rfl) (by assumption) ?_
 simp only [set0, set1]
 refine tkk 4 21 rfl rfl (by kernel_rfl) (fun _ _ _ _ h => h) (by rfl) (fun w h => by obtain ⟨h0, h1⟩ := h; go_simp; rfl) (by assumption) ?_
 simp only [set0, set1]
 refine tkk 5 22 rfl rfl (by kernel_rfl) (fun _ _ _ _ h => h) (by rfl) (fun w h => by obtain ⟨h0, h1⟩ := h; go_simp; rfl) (by assumption) ?_
 simp only [set0, set1]
 refine tkk 6 23 rfl rfl (by kernel_rfl) (fun _ _ _ _ h => h) (by rfl) (fun w h => by obtain ⟨h0, h1⟩ := h; go_simp; rfl) (by assumption) ?_
 simp only [set0, set1]
 refine tkk 7 24 rfl rfl (by kernel_rfl) (fun _ _ _ _ h => h) (by rfl) (fun w h => by obtain ⟨h0, h1⟩ := h; go_simp; rfl) (by assumption) ?_
 simp only [set0, set1]
 refine tkk 8 25 rfl rfl (by kernel_rfl) (fun _ _ _ _ h => h) (by rfl) (fun w h => by obtain ⟨h0, h1⟩ := h; go_simp; rfl) (by assumption) ?_
 simp only [set0, set1]
 refine tkk 9 26 rfl rfl (by kernel_rfl) (fun _ _ _ _ h => h) (by rfl) (fun w h => by obtain ⟨h0, h1⟩ := h; go_simp; rfl) (by assumption) ?_
 simp only [set0, set1]
 refine tkk 10 27 rfl rfl (by kernel_rfl) (fun _ _ _ _ h => h) (by rfl) (fun w h => by obtain ⟨h0, h1⟩ := h; go_simp; rfl) (by assumption) ?_
 simp only [set0, set1]
 refine tkk 11 28 rfl rfl (by kernel_rfl) (fun _ _ _ _ h => h) (by rfl) (fun w h => by obtain ⟨h0, h1⟩ := h; go_simp; rfl) (by assumption) ?_
 clear hHeld
 refine wpAnyH_done (by kernel_rfl) ?_ _
 clear IO tq tb qb
 obtain ⟨N, hN⟩ : ∃ N : Nat, m = (N : Int) := ⟨m.toNat, by have := HNN.out; omega⟩
 subst hN
 have HN := Lib.hid (show 1 ≤ N ∧ N ≤ 163840 by have h1 := of_decide_eq_true HU.out.symm; have h2 := HNN.out; omega)
 clear HNN HM HO
 have Xa := Lib.hid E.out.ba
 have Xc := Lib.hid E.out.bc
 go_upto_region 4 with (fail)
 simp only [List.set_cons_zero, List.set_cons_succ]
 go_cut [9, 10] (fun v9 v10 W => ∃ g9 g10, v9 = .pointer (some ⟨g9, 0, none⟩) ∧ v10 = .pointer (some ⟨g10, 0, none⟩) ∧ B3 w W a t0 A0 n0 c0 (N : Int) t1 A1 n1 c1 c t2 A2 n2 c2 ∧ Nwx W g9 1 ∧ Nwx W g10 (a + a) ∧ w.heap.size + 1 + 1 < g9 ∧ w.heap.size + 1 + 1 < g10 ∧ g9 ≠ g10)
 case first =>
  refine wp_region_tail (S := (fun w' => w'.cell? ⟨w.heap.size, 0, none⟩ = some (.bool t0) ∧ w'.cell? ⟨w.heap.size, 1, none⟩ = some (.slice A0 n0 c0))) 6 (by kernel_rfl) (by kernel_rfl) (by intro c a d v w h; cases d <;> exact h) ⟨cell_drq Xa.out.c0, cell_drq Xa.out.c1⟩ (fun QT hT hP hHeld => ?_)
  simp only [List.extract_toArray, List.extract_eq_take_drop, List.drop_zero, Nat.sub_zero, List.take_succ_cons, List.take_zero]
  have HT := Lib.hid hT
  clear hT
  have HLF := Lib.hid (show ∀ (W : World) (gV9 gV10 : Nat) (t20 : Bool) (A20 : Option Addr) (n20 c20 : Nat) (t21 : Bool) (A21 : Option Addr) (n21 c21 : Nat), B3 w W a t0 A0 n0 c0 (N : Int) t1 A1 n1 c1 c t2 A2 n2 c2 → Nvr W gV9 0 false none 0 0 → Nvr W gV10 0 false none 0 0 → Is W 1 t20 A20 n20 c20 → Is W (a + a) t21 A21 n21 c21 → w.heap.size + 1 + 1 < gV9 → w.heap.size + 1 + 1 < gV10 → gV9 ≠ gV10 → QT .normal { tmps := [.agg #[.bool t0, .slice A0 n0 c0], .agg #[.bool t1, .slice A1 n1 c1], .agg #[.bool t2, .slice A2 n2 c2], .pointer (some ⟨w.heap.size, 0, none⟩), .pointer (some ⟨w.heap.size + 1, 0, none⟩), .pointer (some ⟨w.heap.size + 1 + 1, 0, none⟩), .bool false, .int .i64 (N : Int), .bool true, .pointer (some ⟨gV9, 0, none⟩), .pointer (some ⟨gV10, 0, none⟩), undef, .tuple #[.int .i64 (N : Int), .bool true], .agg #[.bool t1, .slice A1 n1 c1], .tuple #[.int .i64 (N : Int), .bool true], .int .i64 (N : Int), .bool true, .agg #[.bool t0, .slice A0 n0 c0], .agg #[.bool tO, .slice AO nO cO], .int .i64 o, .bool false, .bool false, .bool true, .bool false, .bool false, .bool false, .int .i64 (N : Int), .bool false, .bool false, .agg #[.bool t20, .slice A20 n20 c20], .agg #[.bool t0, .slice A0 n0 c0], .agg #[.bool t0, .slice A0 n0 c0], .agg #[.bool t21, .slice A21 n21 c21], undef, undef, undef, undef, undef, undef, undef, undef, undef, undef, undef, undef, undef, undef, undef, undef, undef, undef, undef, undef, undef, undef].toArray, defers := [] } W from by
   intro W gV9 gV10 t20 A20 n20 c20 t21 A21 n21 c21 e v9 v10 j0 j1 l1 l2 hne
   refine HT.out _ _ ?_
   have p0 := v9.c0
   have p1 := v9.c1
   have p2 := v9.f0
   have p3 := v9.f1
   have E := Lib.hid e
   have V9 := Lib.hid v9
   have V10 := Lib.hid v10
   have J0 := Lib.hid j0
   have J1 := Lib.hid j1
   clear e v9 v10 j0 j1 HT hP QT hHeld Xa Xc
   refine wpList_step fun K hK => ?_
   go_simp
   refine hK _ _ ?_
   clear hK K
   have V10b := Lib.hid (V10.out.far hne p0 p1 (.bool t20) (.slice A20 n20 c20))
   have Eb := Lib.hid (E.out.far l1 p0 p1 (.bool t20) (.slice A20 n20 c20))
   have J1b := Lib.hid (J1.out.store p0 p1 (.bool t20) (.slice A20 n20 c20))
   have V9b := Lib.hid (V9.out.put J0.out)
   clear p0 p1 p2 p3 E V9 V10 J0 J1
   generalize (W.setCell ⟨gV9, 0, none⟩ (.bool t20)).setCell ⟨gV9, 1, none⟩ (.slice A20 n20 c20) = U1 at V10b Eb J1b V9b ⊢
   have p0 := V10b.out.c0
   have p1 := V10b.out.c1
   have p2 := V10b.out.f0
   have p3 := V10b.out.f1
   refine wpList_step fun K hK => ?_
   go_simp
   refine hK _ _ ?_
   clear hK K
   refine wpList_nil ?_
   go_wp2
   go_meet
   exact ⟨gV9, gV10, rfl, rfl, Eb.out.far l2 p0 p1 _ _, (V9b.out.far (Ne.symm hne) p0 p1 _ _).nw, (V10b.out.put J1b.out).nw, l1, l2, hne⟩)
  replace E := Lib.hid (E.out.next (Below.refl v12.heap.size v12).drew)
  replace Xa := Lib.hid (Xa.out.next (Below.refl v12.heap.size v12).drew)
  replace Xc := Lib.hid (Xc.out.next (Below.refl v12.heap.size v12).drew)
  generalize v12.drew = D1 at E Xa Xc hHeld ⊢
  refine tkk 1 30 rfl rfl (by kernel_rfl) (hP · · _) (by rfl) (fun w h => by obtain ⟨h0, h1⟩ := h; go_simp; rfl) (by assumption) ?_
  simp only [set0, set1]
  refine tkk 2 31 rfl rfl (by kernel_rfl) (hP · · _) (by rfl) (fun w h => by obtain ⟨h0, h1⟩ := h; go_simp; rfl) (by assumption) ?_
  simp only [set0, set1]
  refine wpAnyH_ready (rs := [0, 4, 5]) (by kernel_rfl) (by simp) ?_
  refine AllReadyH.cons rfl (fun K hK => ?_) ?_
  ·
   go_simp
   refine (refOfV 1 _ (by omega) (by omega)).mono ?_
   rintro e w2 ⟨t20, A20, n20, c20, rfl, i20, hb⟩
   replace E := Lib.hid (E.out.next hb)
   replace Xa := Lib.hid (Xa.out.next hb)
   replace Xc := Lib.hid (Xc.out.next hb)
   have J0 := Lib.hid (i20.is)
   clear hb hHeld i20
   refine hK.out _ _ ⟨Xa.out.c0, Xa.out.c1⟩ (fun hHeld => ?_)
   clear hK K
   refine wpAnyH_ready (rs := [3, 4, 5]) (by kernel_rfl) (by simp) ?_
   refine AllReadyH.cons rfl (fun K hK => ?_) ?_
   ·
    go_simp
    refine (refAdd_c Xa.out.is Xa.out.is (by have := HL.out.1; omega) (by have := HL.out.1; omega)).mono ?_
    rintro e w3 ⟨t21, A21, n21, c21, rfl, i21, hb⟩
    replace E := Lib.hid (E.out.next hb)
    replace Xa := Lib.hid (Xa.out.next hb)
    replace Xc := Lib.hid (Xc.out.next hb)
    replace J0 := Lib.hid (J0.out.below hb)
    have J1 := Lib.hid (i21)
    clear hb hHeld i21
    refine hK.out _ _ ⟨Xa.out.c0, Xa.out.c1⟩ (fun hHeld => ?_)
    clear hK K
    refine wpAnyH_ready (rs := [4, 5]) (by kernel_rfl) (by simp) ?_
    refine AllReadyH.cons rfl (fun K hK => ?_) ?_
    ·
     go_simp
     clear hHeld
     have V9 := Lib.hid (Nvr.new (is_zero8 w3))
     have lXa := Xa.out.lt
     have lXc := Xc.out.lt
     replace E := Lib.hid (E.out.next (below_alloc _ (.cells #[.bool false, .slice none 0 0] 58)))
     replace Xa := Lib.hid (Xa.out.next (below_alloc _ (.cells #[.bool false, .slice none 0 0] 58)))
     replace Xc := Lib.hid (Xc.out.next (below_alloc _ (.cells #[.bool false, .slice none 0 0] 58)))
     replace J0 := Lib.hid (J0.out.below (below_alloc _ (.cells #[.bool false, .slice none 0 0] 58)))
     replace J1 := Lib.hid (J1.out.below (below_alloc _ (.cells #[.bool false, .slice none 0 0] 58)))
     skip
     generalize w3.alloc (.cells #[.bool false, .slice none 0 0] 58) = y4 at E Xa Xc J0 J1 V9 ⊢
     generalize w3.heap.size = gV9 at V9 lXa lXc ⊢
     refine hK.out _ _ ⟨Xa.out.c0, Xa.out.c1⟩ (fun hHeld => ?_)
     clear hK K
     refine wpAnyH_ready (rs := [5]) (by kernel_rfl) (by simp) ?_
     refine AllReadyH.cons rfl (fun K hK => ?_) AllReadyH.nil
     go_simp
     clear hHeld
     have V10 := Lib.hid (Nvr.new (is_zero8 y4))
     have lXa := Xa.out.lt
     have lXc := Xc.out.lt
     have lV9 := V9.out.lt
     replace E := Lib.hid (E.out.next (below_alloc _ (.cells #[.bool false, .slice none 0 0] 58)))
     replace Xa := Lib.hid (Xa.out.next (below_alloc _ (.cells #[.bool false, .slice none 0 0] 58)))
     replace Xc := Lib.hid (Xc.out.next (below_alloc _ (.cells #[.bool false, .slice none 0 0] 58)))
     replace J0 := Lib.hid (J0.out.below (below_alloc _ (.cells #[.bool false, .slice none 0 0] 58)))
     replace J1 := Lib.hid (J1.out.below (below_alloc _ (.cells #[.bool false, .slice none 0 0] 58)))
     replace V9 := Lib.hid (V9.out.next (below_alloc _ (.cells #[.bool false, .slice none 0 0] 58)))
     skip
     generalize y4.alloc (.cells #[.bool false, .slice none 0 0] 58) = y5 at E Xa Xc J0 J1 V9 V10 ⊢
     generalize y4.heap.size = gV10 at V10 lXa lXc lV9 ⊢
     refine hK.out _ _ ⟨Xa.out.c0, Xa.out.c1⟩ (fun hHeld => ?_)
     clear hK K
     clear hHeld
     refine wpAnyH_done (by kernel_rfl) ?_ _
     exact HLF.out _ _ _ _ _ _ _ _ _ _ _ E.out V9.out V10.out J0.out J1.out (by omega) (by omega) (by omega)
    refine AllReadyH.cons rfl (fun K hK => ?_) ?_
    ·
     go_simp
     clear hHeld
     have V10 := Lib.hid (Nvr.new (is_zero8 w3))
     have lXa := Xa.out.lt
     have lXc := Xc.out.lt
     replace E := Lib.hid (E.out.next (below_alloc _ (.cells #[.bool false, .slice none 0 0] 58)))
     replace Xa := Lib.hid (Xa.out.next (below_alloc _ (.cells #[.bool false, .slice none 0 0] 58)))
     replace Xc := Lib.hid (Xc.out.next (below_alloc _ (.cells #[.bool false, .slice none 0 0] 58)))
     replace J0 := Lib.hid (J0.out.below (below_alloc _ (.cells #[.bool false, .slice none 0 0] 58)))
     replace J1 := Lib.hid (J1.out.below (below_alloc _ (.cells #[.bool false, .slice none 0 0] 58)))
     skip
     generalize w3.alloc (.cells #[.bool false, .slice none 0 0] 58) = y6 at E Xa Xc J0 J1 V10 ⊢
     generalize w3.heap.size = gV10 at V10 lXa lXc ⊢
     refine hK.out _ _ ⟨Xa.out.c0, Xa.out.c1⟩ (fun hHeld => ?_)
     clear hK K
     refine wpAnyH_ready (rs := [4]) (by kernel_rfl) (by simp) ?_
     refine AllReadyH.cons rfl (fun K hK => ?_) AllReadyH.nil
     go_simp
     clear hHeld
     have V9 := Lib.hid (Nvr.new (is_zero8 y6))
     have lXa := Xa.out.lt
     have lXc := Xc.out.lt
     have lV10 := V10.out.lt
     replace E := Lib.hid (E.out.next (below_alloc _ (.cells #[.bool false, .slice none 0 0] 58)))
     replace Xa := Lib.hid (Xa.out.next (below_alloc _ (.cells #[.bool false, .slice none 0 0] 58)))
     replace Xc := Lib.hid (Xc.out.next (below_alloc _ (.cells #[.bool false, .slice none 0 0] 58)))
     replace J0 := Lib.hid (J0.out.below (below_alloc _ (.cells #[.bool false, .slice none 0 0] 58)))
     replace J1 := Lib.hid (J1.out.below (below_alloc _ (.cells #[.bool false, .slice none 0 0] 58)))
     replace V10 := Lib.hid (V10.out.next (below_alloc _ (.cells #[.bool false, .slice none 0 0] 58)))
     skip
     generalize y6.alloc (.cells #[.bool false, .slice none 0 0] 58) = y7 at E Xa Xc J0 J1 V10 V9 ⊢
     generalize y6.heap.size = gV9 at V9 lXa lXc lV10 ⊢
     refine hK.out _ _ ⟨Xa.out.c0, Xa.out.c1⟩ (fun hHeld => ?_)
     clear hK K
     clear hHeld
     refine wpAnyH_done (by kernel_rfl) ?_ _
     exact HLF.out _ _ _ _ _ _ _ _ _ _ _ E.out V9.out V10.out J0.out J1.out (by omega) (by omega) (by omega)
    exact AllReadyH.nil
   refine AllReadyH.cons rfl (fun K hK => ?_) ?_
   ·
    go_simp
    clear hHeld
    have V9 := Lib.hid (Nvr.new (is_zero8 w2))
    have lXa := Xa.out.lt
    have lXc := Xc.out.lt
    replace E := Lib.hid (E.out.next (below_alloc _ (.cells #[.bool false, .slice none 0 0] 58)))
    replace Xa := Lib.hid (Xa.out.next (below_alloc _ (.cells #[.bool false, .slice none 0 0] 58)))
    replace Xc := Lib.hid (Xc.out.next (below_alloc _ (.cells #[.bool false, .slice none 0 0] 58)))
    replace J0 := Lib.hid (J0.out.below (below_alloc _ (.cells #[.bool false, .slice none 0 0] 58)))
    skip
    generalize w2.alloc (.cells #[.bool false, .slice none 0 0] 58) = y8 at E Xa Xc J0 V9 ⊢
    generalize w2.heap.size = gV9 at V9 lXa lXc ⊢
    refine hK.out _ _ ⟨Xa.out.c0, Xa.out.c1⟩ (fun hHeld => ?_)
    clear hK K
    refine wpAnyH_ready (rs := [3, 5]) (by kernel_rfl) (by simp) ?_
    refine AllReadyH.cons rfl (fun K hK => ?_) ?_
    ·
     go_simp
     refine (refAdd_c Xa.out.is Xa.out.is (by have := HL.out.1; omega) (by have := HL.out.1; omega)).mono ?_
     rintro e w9 ⟨t21, A21, n21, c21, rfl, i21, hb⟩
     replace E := Lib.hid (E.out.next hb)
     replace Xa := Lib.hid (Xa.out.next hb)
     replace Xc := Lib.hid (Xc.out.next hb)
     replace J0 := Lib.hid (J0.out.below hb)
     replace V9 := Lib.hid (V9.out.next hb)
     have J1 := Lib.hid (i21)
     clear hb hHeld i21
     refine hK.out _ _ ⟨Xa.out.c0, Xa.out.c1⟩ (fun hHeld => ?_)
     clear hK K
     refine wpAnyH_ready (rs := [5]) (by kernel_rfl) (by simp) ?_
     refine AllReadyH.cons rfl (fun K hK => ?_) AllReadyH.nil
     go_simp
     clear hHeld
     have V10 := Lib.hid (Nvr.new (is_zero8 w9))
     have lXa := Xa.out.lt
     have lXc := Xc.out.lt
     have lV9 := V9.out.lt
     replace E := Lib.hid (E.out.next (below_alloc _ (.cells #[.bool false, .slice none 0 0] 58)))
     replace Xa := Lib.hid (Xa.out.next (below_alloc _ (.cells #[.bool false, .slice none 0 0] 58)))
     replace Xc := Lib.hid (Xc.out.next (below_alloc _ (.cells #[.bool false, .slice none 0 0] 58)))
     replace J0 := Lib.hid (J0.out.below (below_alloc _ (.cells #[.bool false, .slice none 0 0] 58)))
     replace V9 := Lib.hid (V9.out.next (below_alloc _ (.cells #[.bool false, .slice none 0 0] 58)))
     replace J1 := Lib.hid (J1.out.below (below_alloc _ (.cells #[.bool false, .slice none 0 0] 58)))
     skip
     generalize w9.alloc (.cells #[.bool false, .slice none 0 0] 58) = y10 at E Xa Xc J0 V9 J1 V10 ⊢
     generalize w9.heap.size = gV10 at V10 lXa lXc lV9 ⊢
     refine hK.out _ _ ⟨Xa.out.c0, Xa.out.c1⟩ (fun hHeld => ?_)
     clear hK K
     clear hHeld
     refine wpAnyH_done (by kernel_rfl) ?_ _
     exact HLF.out _ _ _ _ _ _ _ _ _ _ _ E.out V9.out V10.out J0.out J1.out (by omega) (by omega) (by omega)
    refine AllReadyH.cons rfl (fun K hK => ?_) ?_
    ·
     go_simp
     clear hHeld
     have V10 := Lib.hid (Nvr.new (is_zero8 y8))
     have lXa := Xa.out.lt
     have lXc := Xc.out.lt
     have lV9 := V9.out.lt
     replace E := Lib.hid (E.out.next (below_alloc _ (.cells #[.bool false, .slice none 0 0] 58)))
     replace Xa := Lib.hid (Xa.out.next (below_alloc _ (.cells #[.bool false, .slice none 0 0] 58)))
     replace Xc := Lib.hid (Xc.out.next (below_alloc _ (.cells #[.bool false, .slice none 0 0] 58)))
     replace J0 := Lib.hid (J0.out.below (below_alloc _ (.cells #[.bool false, .slice none 0 0] 58)))
     replace V9 := Lib.hid (V9.out.next (below_alloc _ (.cells #[.bool false, .slice none 0 0] 58)))
     skip
     generalize y8.alloc (.cells #[.bool false, .slice none 0 0] 58) = y11 at E Xa Xc J0 V9 V10 ⊢
     generalize y8.heap.size = gV10 at V10 lXa lXc lV9 ⊢
     refine hK.out _ _ ⟨Xa.out.c0, Xa.out.c1⟩ (fun hHeld => ?_)
     clear hK K
     refine wpAnyH_ready (rs := [3]) (by kernel_rfl) (by simp) ?_
     refine AllReadyH.cons rfl (fun K hK => ?_) AllReadyH.nil
     go_simp
     refine (refAdd_c Xa.out.is Xa.out.is (by have := HL.out.1; omega) (by have := HL.out.1; omega)).mono ?_
     rintro e w12 ⟨t21, A21, n21, c21, rfl, i21, hb⟩
     replace E := Lib.hid (E.out.next hb)
     replace Xa := Lib.hid (Xa.out.next hb)
     replace Xc := Lib.hid (Xc.out.next hb)
     replace J0 := Lib.hid (J0.out.below hb)
     replace V9 := Lib.hid (V9.out.next hb)
     replace V10 := Lib.hid (V10.out.next hb)
     have J1 := Lib.hid (i21)
     clear hb hHeld i21
     refine hK.out _ _ ⟨Xa.out.c0, Xa.out.c1⟩ (fun hHeld => ?_)
     clear hK K
     clear hHeld
     refine wpAnyH_done (by kernel_rfl) ?_ _
     exact HLF.out _ _ _ _ _ _ _ _ _ _ _ E.out V9.out V10.out J0.out J1.out (by omega) (by omega) (by omega)
    exact AllReadyH.nil
   refine AllReadyH.cons rfl (fun K hK => ?_) ?_
   ·
    go_simp
    clear hHeld
    have V10 := Lib.hid (Nvr.new (is_zero8 w2))
    have lXa := Xa.out.lt
    have lXc := Xc.out.lt
    replace E := Lib.hid (E.out.next (below_alloc _ (.cells #[.bool false, .slice none 0 0] 58)))
    replace Xa := Lib.hid (Xa.out.next (below_alloc _ (.cells #[.bool false, .slice none 0 0] 58)))
    replace Xc := Lib.hid (Xc.out.next (below_alloc _ (.cells #[.bool false, .slice none 0 0] 58)))
    replace J0 := Lib.hid (J0.out.below (below_alloc _ (.cells #[.bool false, .slice none 0 0] 58)))
    skip
    generalize w2.alloc (.cells #[.bool false, .slice none 0 0] 58) = y13 at E Xa Xc J0 V10 ⊢
    generalize w2.heap.size = gV10 at V10 lXa lXc ⊢
    refine hK.out _ _ ⟨Xa.out.c0, Xa.out.c1⟩ (fun hHeld => ?_)
    clear hK K
    refine wpAnyH_ready (rs := [3, 4]) (by kernel_rfl) (by simp) ?_
    refine AllReadyH.cons rfl (fun K hK => ?_) ?_
    ·
     go_simp
     refine (refAdd_c Xa.out.is Xa.out.is (by have := HL.out.1; omega) (by have := HL.out.1; omega)).mono ?_
     rintro e w14 ⟨t21, A21, n21, c21, rfl, i21, hb⟩
     replace E := Lib.hid (E.out.next hb)
     replace Xa := Lib.hid (Xa.out.next hb)
     replace Xc := Lib.hid (Xc.out.next hb)
     replace J0 := Lib.hid (J0.out.below hb)
     replace V10 := Lib.hid (V10.out.next hb)
     have J1 := Lib.hid (i21)
     clear hb hHeld i21
     refine hK.out _ _ ⟨Xa.out.c0, Xa.out.c1⟩ (fun hHeld => ?_)
     clear hK K
     refine wpAnyH_ready (rs := [4]) (by kernel_rfl) (by simp) ?_
     refine AllReadyH.cons rfl (fun K hK => ?_) AllReadyH.nil
     go_simp
     clear hHeld
     have V9 := Lib.hid (Nvr.new (is_zero8 w14))
     have lXa := Xa.out.lt
     have lXc := Xc.out.lt
     have lV10 := V10.out.lt
     replace E := Lib.hid (E.out.next (below_alloc _ (.cells #[.bool false, .slice none 0 0] 58)))
     replace Xa := Lib.hid (Xa.out.next (below_alloc _ (.cells #[.bool false, .slice none 0 0] 58)))
     replace Xc := Lib.hid (Xc.out.next (below_alloc _ (.cells #[.bool false, .slice none 0 0] 58)))
     replace J0 := Lib.hid (J0.out.below (below_alloc _ (.cells #[.bool false, .slice none 0 0] 58)))
     replace V10 := Lib.hid (V10.out.next (below_alloc _ (.cells #[.bool false, .slice none 0 0] 58)))
     replace J1 := Lib.hid (J1.out.below (below_alloc _ (.cells #[.bool false, .slice none 0 0] 58)))
     skip
     generalize w14.alloc (.cells #[.bool false, .slice none 0 0] 58) = y15 at E Xa Xc J0 V10 J1 V9 ⊢
     generalize w14.heap.size = gV9 at V9 lXa lXc lV10 ⊢
     refine hK.out _ _ ⟨Xa.out.c0, Xa.out.c1⟩ (fun hHeld => ?_)
     clear hK K
     clear hHeld
     refine wpAnyH_done (by kernel_rfl) ?_ _
     exact HLF.out _ _ _ _ _ _ _ _ _ _ _ E.out V9.out V10.out J0.out J1.out (by omega) (by omega) (by omega)
    refine AllReadyH.cons rfl (fun K hK => ?_) ?_
    ·
     go_simp
     clear hHeld
     have V9 := Lib.hid (Nvr.new (is_zero8 y13))
     have lXa := Xa.out.lt
     have lXc := Xc.out.lt
     have lV10 := V10.out.lt
     replace E := Lib.hid (E.out.next (below_alloc _ (.cells #[.bool false, .slice none 0 0] 58)))
     replace Xa := Lib.hid (Xa.out.next (below_alloc _ (.cells #[.bool false, .slice none 0 0] 58)))
     replace Xc := Lib.hid (Xc.out.next (below_alloc _ (.cells #[.bool false, .slice none 0 0] 58)))
     replace J0 := Lib.hid (J0.out.below (below_alloc _ (.cells #[.bool false, .slice none 0 0] 58)))
     replace V10 := Lib.hid (V10.out.next (below_alloc _ (.cells #[.bool false, .slice none 0 0] 58)))
     skip
     generalize y13.alloc (.cells #[.bool false, .slice none 0 0] 58) = y16 at E Xa Xc J0 V10 V9 ⊢
     generalize y13.heap.size = gV9 at V9 lXa lXc lV10 ⊢
     refine hK.out _ _ ⟨Xa.out.c0, Xa.out.c1⟩ (fun hHeld => ?_)
     clear hK K
     refine wpAnyH_ready (rs := [3]) (by kernel_rfl) (by simp) ?_
     refine AllReadyH.cons rfl (fun K hK => ?_) AllReadyH.nil
     go_simp
     refine (refAdd_c Xa.out.is Xa.out.is (by have := HL.out.1; omega) (by have := HL.out.1; omega)).mono ?_
     rintro e w17 ⟨t21, A21, n21, c21, rfl, i21, hb⟩
     replace E := Lib.hid (E.out.next hb)
     replace Xa := Lib.hid (Xa.out.next hb)
     replace Xc := Lib.hid (Xc.out.next hb)
     replace J0 := Lib.hid (J0.out.below hb)
     replace V10 := Lib.hid (V10.out.next hb)
     replace V9 := Lib.hid (V9.out.next hb)
     have J1 := Lib.hid (i21)
     clear hb hHeld i21
     refine hK.out _ _ ⟨Xa.out.c0, Xa.out.c1⟩ (fun hHeld => ?_)
     clear hK K
     clear hHeld
     refine wpAnyH_done (by kernel_rfl) ?_ _
     exact HLF.out _ _ _ _ _ _ _ _ _ _ _ E.out V9.out V10.out J0.out J1.out (by omega) (by omega) (by omega)
    exact AllReadyH.nil
   exact AllReadyH.nil
  refine AllReadyH.cons rfl (fun K hK => ?_) ?_
  ·
   go_simp
   clear hHeld
   have V9 := Lib.hid (Nvr.new (is_zero8 D1))
   have lXa := Xa.out.lt
   have lXc := Xc.out.lt
   replace E := Lib.hid (E.out.next (below_alloc _ (.cells #[.bool false, .slice none 0 0] 58)))
   replace Xa := Lib.hid (Xa.out.next (below_alloc _ (.cells #[.bool false, .slice none 0 0] 58)))
   replace Xc := Lib.hid (Xc.out.next (below_alloc _ (.cells #[.bool false, .slice none 0 0] 58)))
   skip
   generalize D1.alloc (.cells #[.bool false, .slice none 0 0] 58) = y18 at E Xa Xc V9 ⊢
   generalize D1.heap.size = gV9 at V9 lXa lXc ⊢
   refine hK.out _ _ ⟨Xa.out.c0, Xa.out.c1⟩ (fun hHeld => ?_)
   clear hK K
   refine wpAnyH_ready (rs := [0, 5]) (by kernel_rfl) (by simp) ?_
   refine AllReadyH.cons rfl (fun K hK => ?_) ?_
   ·
    go_simp
    refine (refOfV 1 _ (by omega) (by omega)).mono ?_
    rintro e w19 ⟨t20, A20, n20, c20, rfl, i20, hb⟩
    replace E := Lib.hid (E.out.next hb)
    replace Xa := Lib.hid (Xa.out.next hb)
    replace Xc := Lib.hid (Xc.out.next hb)
    replace V9 := Lib.hid (V9.out.next hb)
    have J0 := Lib.hid (i20.is)
    clear hb hHeld i20
    refine hK.out _ _ ⟨Xa.out.c0, Xa.out.c1⟩ (fun hHeld => ?_)
    clear hK K
    refine wpAnyH_ready (rs := [3, 5]) (by kernel_rfl) (by simp) ?_
    refine AllReadyH.cons rfl (fun K hK => ?_) ?_
    ·
     go_simp
     refine (refAdd_c Xa.out.is Xa.out.is (by have := HL.out.1; omega) (by have := HL.out.1; omega)).mono ?_
     rintro e w20 ⟨t21, A21, n21, c21, rfl, i21, hb⟩
     replace E := Lib.hid (E.out.next hb)
     replace Xa := Lib.hid (Xa.out.next hb)
     replace Xc := Lib.hid (Xc.out.next hb)
     replace V9 := Lib.hid (V9.out.next hb)
     replace J0 := Lib.hid (J0.out.below hb)
     have J1 := Lib.hid (i21)
     clear hb hHeld i21
     refine hK.out _ _ ⟨Xa.out.c0, Xa.out.c1⟩ (fun hHeld => ?_)
     clear hK K
     refine wpAnyH_ready (rs := [5]) (by kernel_rfl) (by simp) ?_
     refine AllReadyH.cons rfl (fun K hK => ?_) AllReadyH.nil
     go_simp
     clear hHeld
     have V10 := Lib.hid (Nvr.new (is_zero8 w20))
     have lXa := Xa.out.lt
     have lXc := Xc.out.lt
     have lV9 := V9.out.lt
     replace E := Lib.hid (E.out.next (below_alloc _ (.cells #[.bool false, .slice none 0 0] 58)))
     replace Xa := Lib.hid (Xa.out.next (below_alloc _ (.cells #[.bool false, .slice none 0 0] 58)))
     replace Xc := Lib.hid (Xc.out.next (below_alloc _ (.cells #[.bool false, .slice none 0 0] 58)))
     replace V9 := Lib.hid (V9.out.next (below_alloc _ (.cells #[.bool false, .slice none 0 0] 58)))
     replace J0 := Lib.hid (J0.out.below (below_alloc _ (.cells #[.bool false, .slice none 0 0] 58)))
     replace J1 := Lib.hid (J1.out.below (below_alloc _ (.cells #[.bool false, .slice none 0 0] 58)))
     skip
     generalize w20.alloc (.cells #[.bool false, .slice none 0 0] 58) = y21 at E Xa Xc V9 J0 J1 V10 ⊢
     generalize w20.heap.size = gV10 at V10 lXa lXc lV9 ⊢
     refine hK.out _ _ ⟨Xa.out.c0, Xa.out.c1⟩ (fun hHeld => ?_)
     clear hK K
     clear hHeld
     refine wpAnyH_done (by kernel_rfl) ?_ _
     exact HLF.out _ _ _ _ _ _ _ _ _ _ _ E.out V9.out V10.out J0.out J1.out (by omega) (by omega) (by omega)
    refine AllReadyH.cons rfl (fun K hK => ?_) ?_
    ·
     go_simp
     clear hHeld
     have V10 := Lib.hid (Nvr.new (is_zero8 w19))
     have lXa := Xa.out.lt
     have lXc := Xc.out.lt
     have lV9 := V9.out.lt
     replace E := Lib.hid (E.out.next (below_alloc _ (.cells #[.bool false, .slice none 0 0] 58)))
     replace Xa := Lib.hid (Xa.out.next (below_alloc _ (.cells #[.bool false, .slice none 0 0] 58)))
     replace Xc := Lib.hid (Xc.out.next (below_alloc _ (.cells #[.bool false, .slice none 0 0] 58)))
     replace V9 := Lib.hid (V9.out.next (below_alloc _ (.cells #[.bool false, .slice none 0 0] 58)))
     replace J0 := Lib.hid (J0.out.below (below_alloc _ (.cells #[.bool false, .slice none 0 0] 58)))
     skip
     generalize w19.alloc (.cells #[.bool false, .slice none 0 0] 58) = y22 at E Xa Xc V9 J0 V10 ⊢
     generalize w19.heap.size = gV10 at V10 lXa lXc lV9 ⊢
     refine hK.out _ _ ⟨Xa.out.c0, Xa.out.c1⟩ (fun hHeld => ?_)
     clear hK K
     refine wpAnyH_ready (rs := [3]) (by kernel_rfl) (by simp) ?_
     refine AllReadyH.cons rfl (fun K hK => ?_) AllReadyH.nil
     go_simp
     refine (refAdd_c Xa.out.is Xa.out.is (by have := HL.out.1; omega) (by have := HL.out.1; omega)).mono ?_
     rintro e w23 ⟨t21, A21, n21, c21, rfl, i21, hb⟩
     replace E := Lib.hid (E.out.next hb)
     replace Xa := Lib.hid (Xa.out.next hb)
     replace Xc := Lib.hid (Xc.out.next hb)
     replace V9 := Lib.hid (V9.out.next hb)
     replace J0 := Lib.hid (J0.out.below hb)
     replace V10 := Lib.hid (V10.out.next hb)
     have J1 := Lib.hid (i21)
     clear hb hHeld i21
     refine hK.out _ _ ⟨Xa.out.c0, Xa.out.c1⟩ (fun hHeld => ?_)
     clear hK K
     clear hHeld
     refine wpAnyH_done (by kernel_rfl) ?_ _
     exact HLF.out _ _ _ _ _ _ _ _ _ _ _ E.out V9.out V10.out J0.out J1.out (by omega) (by omega) (by omega)
    exact AllReadyH.nil
   refine AllReadyH.cons rfl (fun K hK => ?_) ?_
   ·
    go_simp
    clear hHeld
    have V10 := Lib.hid (Nvr.new (is_zero8 y18))
    have lXa := Xa.out.lt
    have lXc := Xc.out.lt
    have lV9 := V9.out.lt
    replace E := Lib.hid (E.out.next (below_alloc _ (.cells #[.bool false, .slice none 0 0] 58)))
    replace Xa := Lib.hid (Xa.out.next (below_alloc _ (.cells #[.bool false, .slice none 0 0] 58)))
    replace Xc := Lib.hid (Xc.out.next (below_alloc _ (.cells #[.bool false, .slice none 0 0] 58)))
    replace V9 := Lib.hid (V9.out.next (below_alloc _ (.cells #[.bool false, .slice none 0 0] 58)))
    skip
    generalize y18.alloc (.cells #[.bool false, .slice none 0 0] 58) = y24 at E Xa Xc V9 V10 ⊢
    generalize y18.heap.size = gV10 at V10 lXa lXc lV9 ⊢
    refine hK.out _ _ ⟨Xa.out.c0, Xa.out.c1⟩ (fun hHeld => ?_)
    clear hK K
    refine wpAnyH_ready (rs := [0]) (by kernel_rfl) (by simp) ?_
    refine AllReadyH.cons rfl (fun K hK => ?_) AllReadyH.nil
    go_simp
    refine (refOfV 1 _ (by omega) (by omega)).mono ?_
    rintro e w25 ⟨t20, A20, n20, c20, rfl, i20, hb⟩
    replace E := Lib.hid (E.out.next hb)
    replace Xa := Lib.hid (Xa.out.next hb)
    replace Xc := Lib.hid (Xc.out.next hb)
    replace V9 := Lib.hid (V9.out.next hb)
    replace V10 := Lib.hid (V10.out.next hb)
    have J0 := Lib.hid (i20.is)
    clear hb hHeld i20
    refine hK.out _ _ ⟨Xa.out.c0, Xa.out.c1⟩ (fun hHeld => ?_)
    clear hK K
    refine wpAnyH_ready (rs := [3]) (by kernel_rfl) (by simp) ?_
    refine AllReadyH.cons rfl (fun K hK => ?_) AllReadyH.nil
    go_simp
    refine (refAdd_c Xa.out.is Xa.out.is (by have := HL.out.1; omega) (by have := HL.out.1; omega)).mono ?_
    rintro e w26 ⟨t21, A21, n21, c21, rfl, i21, hb⟩
    replace E := Lib.hid (E.out.next hb)
    replace Xa := Lib.hid (Xa.out.next hb)
    replace Xc := Lib.hid (Xc.out.next hb)
    replace V9 := Lib.hid (V9.out.next hb)
    replace V10 := Lib.hid (V10.out.next hb)
    replace J0 := Lib.hid (J0.out.below hb)
    have J1 := Lib.hid (i21)
    clear hb hHeld i21
    refine hK.out _ _ ⟨Xa.out.c0, Xa.out.c1⟩ (fun hHeld => ?_)
    clear hK K
    clear hHeld
    refine wpAnyH_done (by kernel_rfl) ?_ _
    exact HLF.out _ _ _ _ _ _ _ _ _ _ _ E.out V9.out V10.out J0.out J1.out (by omega) (by omega) (by omega)
   exact AllReadyH.nil
  refine AllReadyH.cons rfl (fun K hK => ?_) ?_
  ·
   go_simp
   clear hHeld
   have V10 := Lib.hid (Nvr.new (is_zero8 D1))
   have lXa := Xa.out.lt
   have lXc := Xc.out.lt
   replace E := Lib.hid (E.out.next (below_alloc _ (.cells #[.bool false, .slice none 0 0] 58)))
   replace Xa := Lib.hid (Xa.out.next (below_alloc _ (.cells #[.bool false, .slice none 0 0] 58)))
   replace Xc := Lib.hid (Xc.out.next (below_alloc _ (.cells #[.bool false, .slice none 0 0] 58)))
   skip
   generalize D1.alloc (.cells #[.bool false, .slice none 0 0] 58) = y27 at E Xa Xc V10 ⊢
   generalize D1.heap.size = gV10 at V10 lXa lXc ⊢
   refine hK.out _ _ ⟨Xa.out.c0, Xa.out.c1⟩ (fun hHeld => ?_)
   clear hK K
   refine wpAnyH_ready (rs := [0, 4]) (by kernel_rfl) (by simp) ?_
   refine AllReadyH.cons rfl (fun K hK => ?_) ?_
   ·
    go_simp
    refine (refOfV 1 _ (by omega) (by omega)).mono ?_
    rintro e w28 ⟨t20, A20, n20, c20, rfl, i20, hb⟩
    replace E := Lib.hid (E.out.next hb)
    replace Xa := Lib.hid (Xa.out.next hb)
    replace Xc := Lib.hid (Xc.out.next hb)
    replace V10 := Lib.hid (V10.out.next hb)
    have J0 := Lib.hid (i20.is)
    clear hb hHeld i20
    refine hK.out _ _ ⟨Xa.out.c0, Xa.out.c1⟩ (fun hHeld => ?_)
    clear hK K
    refine wpAnyH_ready (rs := [3, 4]) (by kernel_rfl) (by simp) ?_
    refine AllReadyH.cons rfl (fun K hK => ?_) ?_
    ·
     go_simp
     refine (refAdd_c Xa.out.is Xa.out.is (by have := HL.out.1; omega) (by have := HL.out.1; omega)).mono ?_
     rintro e w29 ⟨t21, A21, n21, c21, rfl, i21, hb⟩
     replace E := Lib.hid (E.out.next hb)
     replace Xa := Lib.hid (Xa.out.next hb)
     replace Xc := Lib.hid (Xc.out.next hb)
     replace V10 := Lib.hid (V10.out.next hb)
     replace J0 := Lib.hid (J0.out.below hb)
     have J1 := Lib.hid (i21)
     clear hb hHeld i21
     refine hK.out _ _ ⟨Xa.out.c0, Xa.out.c1⟩ (fun hHeld => ?_)
     clear hK K
     refine wpAnyH_ready (rs := [4]) (by kernel_rfl) (by simp) ?_
     refine AllReadyH.cons rfl (fun K hK => ?_) AllReadyH.nil
     go_simp
     clear hHeld
     have V9 := Lib.hid (Nvr.new (is_zero8 w29))
     have lXa := Xa.out.lt
     have lXc := Xc.out.lt
     have lV10 := V10.out.lt
     replace E := Lib.hid (E.out.next (below_alloc _ (.cells #[.bool false, .slice none 0 0] 58)))
     replace Xa := Lib.hid (Xa.out.next (below_alloc _ (.cells #[.bool false, .slice none 0 0] 58)))
     replace Xc := Lib.hid (Xc.out.next (below_alloc _ (.cells #[.bool false, .slice none 0 0] 58)))
     replace V10 := Lib.hid (V10.out.next (below_alloc _ (.cells #[.bool false, .slice none 0 0] 58)))
     replace J0 := Lib.hid (J0.out.below (below_alloc _ (.cells #[.bool false, .slice none 0 0] 58)))
     replace J1 := Lib.hid (J1.out.below (below_alloc _ (.cells #[.bool false, .slice none 0 0] 58)))
     skip
     generalize w29.alloc (.cells #[.bool false, .slice none 0 0] 58) = y30 at E Xa Xc V10 J0 J1 V9 ⊢
     generalize w29.heap.size = gV9 at V9 lXa lXc lV10 ⊢
     refine hK.out _ _ ⟨Xa.out.c0, Xa.out.c1⟩ (fun hHeld => ?_)
     clear hK K
     clear hHeld
     refine wpAnyH_done (by kernel_rfl) ?_ _
     exact HLF.out _ _ _ _ _ _ _ _ _ _ _ E.out V9.out V10.out J0.out J1.out (by omega) (by omega) (by omega)
    refine AllReadyH.cons rfl (fun K hK => ?_) ?_
    ·
     go_simp
     clear hHeld
     have V9 := Lib.hid (Nvr.new (is_zero8 w28))
     have lXa := Xa.out.lt
     have lXc := Xc.out.lt
     have lV10 := V10.out.lt
     replace E := Lib.hid (E.out.next (below_alloc _ (.cells #[.bool false, .slice none 0 0] 58)))
     replace Xa := Lib.hid (Xa.out.next (below_alloc _ (.cells #[.bool false, .slice none 0 0] 58)))
     replace Xc := Lib.hid (Xc.out.next (below_alloc _ (.cells #[.bool false, .slice none 0 0] 58)))
     replace V10 := Lib.hid (V10.out.next (below_alloc _ (.cells #[.bool false, .slice none 0 0] 58)))
     replace J0 := Lib.hid (J0.out.below (below_alloc _ (.cells #[.bool false, .slice none 0 0] 58)))
     skip
     generalize w28.alloc (.cells #[.bool false, .slice none 0 0] 58) = y31 at E Xa Xc V10 J0 V9 ⊢
     generalize w28.heap.size = gV9 at V9 lXa lXc lV10 ⊢
     refine hK.out _ _ ⟨Xa.out.c0, Xa.out.c1⟩ (fun hHeld => ?_)
     clear hK K
     refine wpAnyH_ready (rs := [3]) (by kernel_rfl) (by simp) ?_
     refine AllReadyH.cons rfl (fun K hK => ?_) AllReadyH.nil
     go_simp
     refine (refAdd_c Xa.out.is Xa.out.is (by have := HL.out.1; omega) (by have := HL.out.1; omega)).mono ?_
     rintro e w32 ⟨t21, A21, n21, c21, rfl, i21, hb⟩
     replace E := Lib.hid (E.out.next hb)
     replace Xa := Lib.hid (Xa.out.next hb)
     replace Xc := Lib.hid (Xc.out.next hb)
     replace V10 := Lib.hid (V10.out.next hb)
     replace J0 := Lib.hid (J0.out.below hb)
     replace V9 := Lib.hid (V9.out.next hb)
     have J1 := Lib.hid (i21)
     clear hb hHeld i21
     refine hK.out _ _ ⟨Xa.out.c0, Xa.out.c1⟩ (fun hHeld => ?_)
     clear hK K
     clear hHeld
     refine wpAnyH_done (by kernel_rfl) ?_ _
     exact HLF.out _ _ _ _ _ _ _ _ _ _ _ E.out V9.out V10.out J0.out J1.out (by omega) (by omega) (by omega)
    exact AllReadyH.nil
   refine AllReadyH.cons rfl (fun K hK => ?_) ?_
   ·
    go_simp
    clear hHeld
    have V9 := Lib.hid (Nvr.new (is_zero8 y27))
    have lXa := Xa.out.lt
    have lXc := Xc.out.lt
    have lV10 := V10.out.lt
    replace E := Lib.hid (E.out.next (below_alloc _ (.cells #[.bool false, .slice none 0 0] 58)))
    replace Xa := Lib.hid (Xa.out.next (below_alloc _ (.cells #[.bool false, .slice none 0 0] 58)))
    replace Xc := Lib.hid (Xc.out.next (below_alloc _ (.cells #[.bool false, .slice none 0 0] 58)))
    replace V10 := Lib.hid (V10.out.next (below_alloc _ (.cells #[.bool false, .slice none 0 0] 58)))
    skip
    generalize y27.alloc (.cells #[.bool false, .slice none 0 0] 58) = y33 at E Xa Xc V10 V9 ⊢
    generalize y27.heap.size = gV9 at V9 lXa lXc lV10 ⊢
    refine hK.out _ _ ⟨Xa.out.c0, Xa.out.c1⟩ (fun hHeld => ?_)
    clear hK K
    refine wpAnyH_ready (rs := [0]) (by kernel_rfl) (by simp) ?_
    refine AllReadyH.cons rfl (fun K hK => ?_) AllReadyH.nil
    go_simp
    refine (refOfV 1 _ (by omega) (by omega)).mono ?_
    rintro e w34 ⟨t20, A20, n20, c20, rfl, i20, hb⟩
    replace E := Lib.hid (E.out.next hb)
    replace Xa := Lib.hid (Xa.out.next hb)
    replace Xc := Lib.hid (Xc.out.next hb)
    replace V10 := Lib.hid (V10.out.next hb)
    replace V9 := Lib.hid (V9.out.next hb)
    have J0 := Lib.hid (i20.is)
    clear hb hHeld i20
    refine hK.out _ _ ⟨Xa.out.c0, Xa.out.c1⟩ (fun hHeld => ?_)
    clear hK K
    refine wpAnyH_ready (rs := [3]) (by kernel_rfl) (by simp) ?_
    refine AllReadyH.cons rfl (fun K hK => ?_) AllReadyH.nil
    go_simp
    refine (refAdd_c Xa.out.is Xa.out.is (by have := HL.out.1; omega) (by have := HL.out.1; omega)).mono ?_
    rintro e w35 ⟨t21, A21, n21, c21, rfl, i21, hb⟩
    replace E := Lib.hid (E.out.next hb)
    replace Xa := Lib.hid (Xa.out.next hb)
    replace Xc := Lib.hid (Xc.out.next hb)
    replace V10 := Lib.hid (V10.out.next hb)
    replace V9 := Lib.hid (V9.out.next hb)
    replace J0 := Lib.hid (J0.out.below hb)
    have J1 := Lib.hid (i21)
    clear hb hHeld i21
    refine hK.out _ _ ⟨Xa.out.c0, Xa.out.c1⟩ (fun hHeld => ?_)
    clear hK K
    clear hHeld
    refine wpAnyH_done (by kernel_rfl) ?_ _
    exact HLF.out _ _ _ _ _ _ _ _ _ _ _ E.out V9.out V10.out J0.out J1.out (by omega) (by omega) (by omega)
   exact AllReadyH.nil
  exact AllReadyH.nil
 case rest =>
  obtain ⟨g9, g10, rfl, rfl, he, h9, h10, l1, l2, l3⟩ := hcut
  clear E Xa Xc
  obtain ⟨t9, A9, n9, c9, h9⟩ := h9
  obtain ⟨t10, A10, n10, c10, h10⟩ := h10
  have E := Lib.hid (PI.mk he h9 h10)
  have LG := Lib.hid (And.intro l1 (And.intro l2 l3))
  clear he h9 h10 l1 l2
  go_wp2
  go_loopw [11] (fun v wr => ∃ (i : Nat) (t9 : Bool) (A9 : Option Addr) (n9 c9 : Nat) (t10 : Bool) (A10 : Option Addr) (n10 c10 : Nat), v = .int .i64 (i : Int) ∧ 1 ≤ i ∧ i ≤ N ∧ (∀ j, 1 ≤ j → j < i → psi a j ≤ c) ∧ PI w wr a t0 A0 n0 c0 (N : Int) t1 A1 n1 c1 c t2 A2 n2 c2 g9 g10 (psi a i) t9 A9 n9 c9 (psi a (i + 1)) t10 A10 n10 c10) (fun v _ => 163841 - (intOf v).toNat)
  case atStart => exact ⟨1, _, _, _, _, _, _, _, _, rfl, by omega, HN.out.1, fun j h1 h2 => by omega, by rw [psi_one9, psi_two9]; exact E.out⟩
  case round =>
   clear E
   obtain ⟨i, t9, A9, n9, c9, t10, A10, n10, c10, rfl, hi1, hiN, hj, hE⟩ := hrel
   have E := Lib.hid hE
   have HJ := Lib.hid hj
   have HI1 := Lib.hid (And.intro hi1 hiN)
   clear hE hj hi1
   have s9 : Sz (psi a i) 8194 := by
    rcases Nat.lt_or_ge 1 i with h | h
    · obtain ⟨k, rfl⟩ : ∃ k, i = k + 1 := ⟨i - 1, by omega⟩
      exact (psi_sizes HA.out HS.out.1 HS.out.2.2 (HJ.out k (by omega) (by omega))).2.1
    · obtain rfl : i = 1 := by have := HI1.out; omega
      rw [psi_one9]
      exact sz_one' (by omega)
   have HL9 := Lib.hid (E.out.b9.is.len s9)
   clear s9
   by_cases hlt : i < N
   · have q1 : decide ((i : Int) < (N : Int)) = true := decide_eq_true (by omega)
     have q1n : decide (i < N) = true := decide_eq_true hlt
     have q1p : (i : Int) < (N : Int) := by omega
     have p0 := E.out.b9.c0
     have p1 := E.out.b9.c1
     have x0 := E.out.e.bc.c0
     have x1 := E.out.e.bc.c1
     go_wp2_with fail
     refine (refCmp_c E.out.b9.is E.out.e.bc.is (by have := HL9.out; omega) (by have := HL.out.2.2; omega)).mono ?_
     obtain ⟨o, ho⟩ : ∃ o, o = ord (psi a i) c := ⟨_, rfl⟩
     rw [← ho]
     have HO := Lib.hid ho
     rintro e w7 ⟨rfl, hb⟩
     replace E := Lib.hid (E.out.next hb)
     clear hb p0 p1 x0 x1
     by_cases hle : psi a i ≤ c
     · have q2 : decide (o ≤ 0) = true := decide_eq_true (by
        rcases Int.lt_or_eq_of_le hle with h | h
        · rw [ho, ord_lt h]; omega
        · rw [ho, ord_eq h]; omega)
       obtain ⟨z1, z2, z3, z4⟩ := psi_sizes HA.out HS.out.1 HS.out.2.2 hle
       have HZ := Lib.hid (And.intro z1 (And.intro z2 (And.intro z3 z4)))
       have HC := Lib.hid hle
       clear hle z1 z2 z3 z4 ho HO
       go_upto_region 8 with (fail)
       have Xa := Lib.hid E.out.e.ba
       have X9 := Lib.hid E.out.b9
       have X10 := Lib.hid E.out.b10
       refine wp_region_tail (S := (fun w' => w'.cell? ⟨w.heap.size, 0, none⟩ = some (.bool t0) ∧ w'.cell? ⟨w.heap.size, 1, none⟩ = some (.slice A0 n0 c0) ∧ w'.cell? ⟨g9, 0, none⟩ = some (.bool t9) ∧ w'.cell? ⟨g9, 1, none⟩ = some (.slice A9 n9 c9) ∧ w'.cell? ⟨g10, 0, none⟩ = some (.bool t10) ∧ w'.cell? ⟨g10, 1, none⟩ = some (.slice A10 n10 c10))) 8 (by kernel_rfl) (by kernel_rfl) (by intro c a d v w h; cases d <;> exact h) ⟨cell_drq Xa.out.c0, cell_drq Xa.out.c1, cell_drq X9.out.c0, cell_drq X9.out.c1, cell_drq X10.out.c0, cell_drq X10.out.c1⟩ (fun QT hT hP hHeld => ?_)
       simp only [List.extract_toArray, List.extract_eq_take_drop, List.drop_zero, Nat.sub_zero, List.take_succ_cons, List.take_zero]
       have HT := Lib.hid hT
       clear hT
       replace E := Lib.hid (E.out.next (Below.refl w7.heap.size w7).drew)
       replace Xa := Lib.hid (Xa.out.next (Below.refl w7.heap.size w7).drew)
       replace X9 := Lib.hid (X9.out.next (Below.refl w7.heap.size w7).drew)
       replace X10 := Lib.hid (X10.out.next (Below.refl w7.heap.size w7).drew)
       generalize w7.drew = D36 at E Xa X9 X10 hHeld ⊢
       refine tkk 0 44 rfl rfl (by kernel_rfl) (hP · · _) (by rfl) (fun w h => by obtain ⟨h0, h1, h2, h3, h4, h5⟩ := h; go_simp; rfl) (by assumption) ?_
       simp only [set0, set1]
       refine tkk 1 45 rfl rfl (by kernel_rfl) (hP · · _) (by rfl) (fun w h => by obtain ⟨h0, h1, h2, h3, h4, h5⟩ := h; go_simp; rfl) (by assumption) ?_
       simp only [set0, set1]
       refine tkk 2 46 rfl rfl (by kernel_rfl) (hP · · _) (by rfl) (fun w h => by obtain ⟨h0, h1, h2, h3, h4, h5⟩ := h; go_simp; rfl) (by assumption) ?_
       simp only [set0, set1]
       refine tkk 4 48 rfl rfl (by kernel_rfl) (hP · · _) (by rfl) (fun w h => by obtain ⟨h0, h1, h2, h3, h4, h5⟩ := h; go_simp; rfl) (by assumption) ?_
       simp only [set0, set1]
       refine tkk 6 50 rfl rfl (by kernel_rfl) (hP · · _) (by rfl) (fun w h => by obtain ⟨h0, h1, h2, h3, h4, h5⟩ := h; go_simp; rfl) (by assumption) ?_
       simp only [set0, set1]
       refine wpAnyH_ready (rs := [3]) (by kernel_rfl) (by simp) ?_
       refine AllReadyH.cons rfl (fun K hK => ?_) AllReadyH.nil
       go_simp
       refine (refAdd_c Xa.out.is Xa.out.is (by have := HL.out.1; omega) (by have := HL.out.1; omega)).mono ?_
       rintro e w37 ⟨t21, A21, n21, c21, rfl, i21, hb⟩
       replace E := Lib.hid (E.out.next hb)
       replace Xa := Lib.hid (Xa.out.next hb)
       replace X9 := Lib.hid (X9.out.next hb)
       replace X10 := Lib.hid (X10.out.next hb)
       have J1 := Lib.hid (i21)
       clear hb hHeld i21
       refine hK.out _ _ ⟨Xa.out.c0, Xa.out.c1, X9.out.c0, X9.out.c1, X10.out.c0, X10.out.c1⟩ (fun hHeld => ?_)
       clear hK K
       refine wpAnyH_ready (rs := [5]) (by kernel_rfl) (by simp) ?_
       refine AllReadyH.cons rfl (fun K hK => ?_) AllReadyH.nil
       go_simp
       refine (refMul_c J1.out X10.out.is (Nat.le_trans (J1.out.len HZ.out.2.2.1) (by omega)) (Nat.le_trans (X10.out.is.len HZ.out.2.1) (by omega))).mono ?_
       rintro e w38 ⟨t22, A22, n22, c22, rfl, i22, hb⟩
       replace E := Lib.hid (E.out.next hb)
       replace Xa := Lib.hid (Xa.out.next hb)
       replace X9 := Lib.hid (X9.out.next hb)
       replace X10 := Lib.hid (X10.out.next hb)
       replace J1 := Lib.hid (J1.out.below hb)
       have J2 := Lib.hid (i22)
       clear hb hHeld i22
       refine hK.out _ _ ⟨Xa.out.c0, Xa.out.c1, X9.out.c0, X9.out.c1, X10.out.c0, X10.out.c1⟩ (fun hHeld => ?_)
       clear hK K
       refine wpAnyH_ready (rs := [7]) (by kernel_rfl) (by simp) ?_
       refine AllReadyH.cons rfl (fun K hK => ?_) AllReadyH.nil
       go_simp
       refine (refSub_c J2.out X9.out.is (Nat.le_trans (J2.out.len HZ.out.2.2.2) (by omega)) (Nat.le_trans (X9.out.is.len HZ.out.1) (by omega))).mono ?_
       rintro e w39 ⟨t23, A23, n23, c23, rfl, i23, hb⟩
       replace E := Lib.hid (E.out.next hb)
       replace Xa := Lib.hid (Xa.out.next hb)
       replace X9 := Lib.hid (X9.out.next hb)
       replace X10 := Lib.hid (X10.out.next hb)
       replace J1 := Lib.hid (J1.out.below hb)
       replace J2 := Lib.hid (J2.out.below hb)
       have J3 := Lib.hid (i23)
       clear hb hHeld i23
       refine hK.out _ _ ⟨Xa.out.c0, Xa.out.c1, X9.out.c0, X9.out.c1, X10.out.c0, X10.out.c1⟩ (fun hHeld => ?_)
       clear hK K
       clear hHeld
       refine wpAnyH_done (by kernel_rfl) ?_ _
       refine HT.out _ _ ?_
       clear HT hP QT
       clear Xa X9 X10 J1 J2
       have p0 := E.out.b9.c0
       have p1 := E.out.b9.c1
       have p2 := E.out.b9.f0
       have p3 := E.out.b9.f1
       refine wpList_step fun K hK => ?_
       go_simp
       refine hK _ _ ?_
       clear hK K
       replace E := Lib.hid (show PI w ((w39.setCell ⟨g9, 0, none⟩ (.bool t10)).setCell ⟨g9, 1, none⟩ (.slice A10 n10 c10)) a t0 A0 n0 c0 (N : Int) t1 A1 n1 c1 c t2 A2 n2 c2 g9 g10 (psi a (i + 1)) t10 A10 n10 c10 (psi a (i + 1)) t10 A10 n10 c10 from ⟨E.out.e.far LG.out.1 p0 p1 _ _, E.out.b9.put E.out.b10.is, E.out.b10.far LG.out.2.2 p0 p1 _ _⟩)
       replace J3 := Lib.hid (J3.out.store p0 p1 (.bool t10) (.slice A10 n10 c10))
       clear p0 p1 p2 p3
       generalize (w39.setCell ⟨g9, 0, none⟩ (.bool t10)).setCell ⟨g9, 1, none⟩ (.slice A10 n10 c10) = U1 at E J3 ⊢
       have p0 := E.out.b10.c0
       have p1 := E.out.b10.c1
       have p2 := E.out.b10.f0
       have p3 := E.out.b10.f1
       refine wpList_step fun K hK => ?_
       go_simp
       refine hK _ _ ?_
       clear hK K
       have J4 := Lib.hid (show Is U1 (psi a (i + 1 + 1)) t23 A23 n23 c23 by rw [psi_two, show 2 * a = a + a by omega]; exact J3.out)
       replace E := Lib.hid (show PI w ((U1.setCell ⟨g10, 0, none⟩ (.bool t23)).setCell ⟨g10, 1, none⟩ (.slice A23 n23 c23)) a t0 A0 n0 c0 (N : Int) t1 A1 n1 c1 c t2 A2 n2 c2 g9 g10 (psi a (i + 1)) t10 A10 n10 c10 (psi a (i + 1 + 1)) t23 A23 n23 c23 from ⟨E.out.e.far LG.out.2.1 p0 p1 _ _, E.out.b9.far (Ne.symm LG.out.2.2) p0 p1 _ _, E.out.b10.put J4.out⟩)
       clear p0 p1 p2 p3 J3 J4
       generalize (U1.setCell ⟨g10, 0, none⟩ (.bool t23)).setCell ⟨g10, 1, none⟩ (.slice A23 n23 c23) = U2 at E ⊢
       refine wpList_nil ?_
       have HJ2 := Lib.hid (show ∀ j, 1 ≤ j → j < i + 1 → psi a j ≤ c from fun j h1 h2 => by
        by_cases hji : j = i
        · subst hji; exact HC.out
        · exact HJ.out j h1 (by omega))
       have HB := Lib.hid (show i + 1 ≤ N by omega)
       clear HJ q1 q1n q1p q2 hlt
       have hN3 : N ≤ 163840 := HN.out.2
       go_wp2
       go_roundw
       case measure => simp [intOf]; omega
       case rel => exact ⟨i + 1, _, _, _, _, _, _, _, _, by go_num, by omega, HB.out, HJ2.out, E.out⟩
     · have q2 : decide (o ≤ 0) = false := decide_eq_false (by rw [ho, ord_gt (by omega)]; omega)
       have HF := Lib.hid (isPsi_end (a := a) (c := c) (N := N) (i := i) HA.out HN.out.1 HI1.out.2 (.inr (by omega)))
       clear hle ho HO
       have p0 := E.out.b9.c0
       have p1 := E.out.b9.c1
       have x0 := E.out.e.bc.c0
       have x1 := E.out.e.bc.c1
       go_wp2_with fail
       refine (refSame_z E.out.b9.is E.out.e.bc.is (by have := HL9.out; omega)).mono ?_
       rintro e w8 ⟨rfl, hb⟩
       have P := Lib.hid (E.out.e.low.trans (hb.mono E.out.e.low.size))
       clear hb p0 p1 x0 x1
       generalize decide (psi a i = c) = v at HF ⊢
       go_wp2
       go_ret
       exact isB_of HF.out P.out
   · have q1 : decide ((i : Int) < (N : Int)) = false := decide_eq_false (by omega)
     have q1n : decide (i < N) = false := decide_eq_false hlt
     have HF := Lib.hid (isPsi_end (a := a) (c := c) (N := N) (i := i) HA.out HN.out.1 HI1.out.2 (.inl (by omega)))
     have p0 := E.out.b9.c0
     have p1 := E.out.b9.c1
     have x0 := E.out.e.bc.c0
     have x1 := E.out.e.bc.c1
     go_wp2_with fail
     refine (refSame_z E.out.b9.is E.out.e.bc.is (by have := HL9.out; omega)).mono ?_
     rintro e w8 ⟨rfl, hb⟩
     have P := Lib.hid (E.out.e.low.trans (hb.mono E.out.e.low.size))
     clear hb p0 p1 x0 x1
     generalize decide (psi a i = c) = v at HF ⊢
     go_wp2
     go_ret
     exact isB_of HF.out P.out
end Go.Proofs.YteabokkofoomkaaGreat

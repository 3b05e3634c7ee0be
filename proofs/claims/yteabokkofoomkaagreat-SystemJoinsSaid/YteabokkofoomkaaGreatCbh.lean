import Derived.Test.YteabokkofoomkaaGreatCak
import Derived.Test.YteabokkofoomkaaGreatCbc
import Derived.Test.YteabokkofoomkaaGreatCbg
import Derived.Test.YteabokkofoomkaaGreatCar
import Derived.BigRegion
set_option maxRecDepth 100000
namespace Go.Proofs.YteabokkofoomkaaGreat
open Go.RowKit Go.Shelf Go.Deep
def linkZ (kind : Int) (a b c : Int) : Bool :=
 if kind = 1 then decide (2 ≤ a ∧ 1 ≤ b ∧ psi a b.toNat = c)
 else if kind = 2 then decide (1 ≤ a ∧ 0 ≤ b ∧ a ^ b.toNat = c)
 else if kind = 3 then decide (0 ≤ a ∧ 0 ≤ b ∧ a.natAbs &&& b.natAbs = a.natAbs)
 else decide (a = 0)
structure NE (W : World) (b o : Nat) (z : Int) (t : Bool) (A : Option Addr) (n c : Nat) : Prop where
 lt : b < W.heap.size
 c0 : W.cell? ⟨b, o, none⟩ = some (.bool t)
 c1 : W.cell? ⟨b, o + 1, none⟩ = some (.slice A n c)
 iv : Iv W z t A n c
theorem NE.next {W W' : World} {b o : Nat} {z : Int} {t : Bool} {A : Option Addr} {n c : Nat} (h : NE W b o z t A n c) (hb : Below W.heap.size W W') : NE W' b o z t A n c :=
 ⟨Nat.lt_of_lt_of_le h.lt hb.size, (hb.cell (p := ⟨b, o, none⟩) h.lt).trans h.c0, (hb.cell (p := ⟨b, o + 1, none⟩) h.lt).trans h.c1, h.iv.below hb⟩
theorem zs_at {W : World} {A : Option Addr} {n : Nat} {zs : List Int} (h : RdN W A n (zs.map nmOf)) (hz : ∀ i, i < zs.length → Sz (zs.getD i 0) 4096) (hn : 0 < n) :
 ∃ b o, A = some ⟨b, o, none⟩ ∧ ∀ i, i < n → ∃ t A1 n1 c1, NE W b (o + i * 2) (zs.getD i 0) t A1 n1 c1 := by
 have hl := h.len
 rw [List.length_map] at hl
 obtain ⟨b, o, e, hlt, hc⟩ := h.at_ hn
 refine ⟨b, o, e, fun i hi => ?_⟩
 obtain ⟨A1, n1, c1, hN⟩ := hc i hi
 have e1 : nmAt (zs.map nmOf) i = nmOf (zs.getD i 0) := by
  simp [nmAt, List.getD_eq_getElem?_getD, List.getElem?_eq_getElem (show i < zs.length by omega)]
 rw [e1] at hN
 have hr := hN.rd
 have c0 := hN.c0
 exact ⟨_, A1, n1, c1, hlt, c0, hN.c1, ⟨rfl, hr.len.symm, hr, hN.nc, hN.cm⟩, hz i (by omega)⟩
theorem psi_inj {a : Int} (ha : 2 ≤ a) {m n : Nat} (h : psi a m = psi a n) : m = n := by
 rcases Nat.lt_trichotomy m n with q | q | q
 · have := psi_lt ha q; omega
 · exact q
 · have := psi_lt ha q; omega
theorem psi_never {a b c : Int} (ha : 2 ≤ a) (hb : 9223372036854775808 ≤ b) (hc : Sz c 4096) : ¬ psi a b.toNat = c := by
 intro e
 have h := psi_lt ha (show b.toNat - 1 < b.toNat by omega)
 rw [e] at h
 have := idx_bound ha hc h
 omega
theorem psi_says {a b c : Int} (hc : Sz c 4096) {u : Bool} {sv : Int} (hu : u = decide (-9223372036854775808 ≤ b ∧ b < 9223372036854775808)) (hs : u = true → sv = b) {r k : Int}
 (h : (a < 2 ∧ k = 2) ∨ (2 ≤ a ∧ ((k = 0 ∧ ∃ n : Nat, r = (n : Int) ∧ psi a n = c) ∨ (k = 6 ∧ r = 0 ∧ ∀ n, psi a n ≠ c)))) :
 linkZ 1 a b c = (u && decide (1 ≤ sv) && (k == 0) && (r == sv)) := by
 unfold linkZ
 rw [if_pos rfl]
 rcases h with ⟨h1, rfl⟩ | ⟨h1, ⟨rfl, n, rfl, hn⟩ | ⟨rfl, rfl, hn⟩⟩
 · rw [decide_eq_false (fun q => by omega)]
   cases u <;> simp
 · by_cases hb : 9223372036854775808 ≤ b
   · rw [decide_eq_false (fun q => psi_never h1 hb hc q.2.2), hu, decide_eq_false (fun q => by omega)]
     rfl
   · by_cases hb2 : 1 ≤ b
     · have e : u = true := by rw [hu]; exact decide_eq_true ⟨by omega, by omega⟩
       rw [e, hs e, decide_eq_true hb2]
       simp only [Bool.true_and, beq_self_eq_true]
       by_cases e2 : (n : Int) = b
       · rw [decide_eq_true ⟨h1, hb2, by rw [← e2, Int.toNat_natCast]; exact hn⟩, e2]
         simp
       · rw [decide_eq_false (fun q => e2 (by
          have := psi_inj h1 (q.2.2.trans hn.symm)
          omega))]
         symm
         rw [beq_eq_false_iff_ne]
         exact e2
     · rw [decide_eq_false (fun q => hb2 q.2.1)]
       cases u with
       | false => rfl
       | true =>
         rw [hs rfl, decide_eq_false hb2]
         rfl
 · rw [decide_eq_false (fun q => hn _ q.2.2)]
   cases u <;> simp
theorem Index_all {w : World} {a : Int} {t : Bool} {A : Option Addr} {n c : Nat} {y : Int} {t' : Bool} {A' : Option Addr} {n' c' : Nat} (h : Iv w a t A n c) (h' : Iv w y t' A' n' c') :
 Calls Tryz.prog 78 #[.agg #[.bool t, .slice A n c], .agg #[.bool t', .slice A' n' c']] w fun e w' => ∃ r k : Int, e = .returned (.tuple #[.int .i64 r, .int .i64 k]) ∧ Below w.heap.size w w' ∧ ((a < 2 ∧ k = 2) ∨ (2 ≤ a ∧ ((k = 0 ∧ ∃ n : Nat, r = (n : Int) ∧ psi a n = y) ∨ (k = 6 ∧ r = 0 ∧ ∀ n, psi a n ≠ y)))) := by
 by_cases ha : 2 ≤ a
 · refine (Index_c h h' ha).mono ?_
   rintro e w' ⟨r, k, e1, hb, h2⟩
   exact ⟨r, k, e1, hb, .inr ⟨ha, h2⟩⟩
 · obtain ⟨r1, v1, s1, n1, c1⟩ := h.is.raw h.sz (Nat.le_refl _)
   obtain ⟨r2, v2, s2, n2, c2⟩ := h'.is.raw h'.sz (Nat.le_refl _)
   refine (Index_err r1 r2 n1 c1 2 (by
    rw [v2]
    unfold codeV
    rw [if_neg (by rw [v1]; simp), if_pos (by rw [s1]; omega)]) (by omega)).mono ?_
   rintro e w' ⟨e1, hb⟩
   exact ⟨0, 2, e1, hb, .inl ⟨by omega, rfl⟩⟩
theorem Under_all {w : World} {a : Int} {t : Bool} {A : Option Addr} {n c : Nat} {b : Int} {t' : Bool} {A' : Option Addr} {n' c' : Nat} (h : Iv w a t A n c) (h' : Iv w b t' A' n' c') :
 Calls Tryz.prog 80 #[.agg #[.bool t, .slice A n c], .agg #[.bool t', .slice A' n' c']] w fun e w' => ∃ (x : Bool) (k : Int), e = .returned (.tuple #[.bool x, .int .i64 k]) ∧ decide (0 ≤ a ∧ 0 ≤ b ∧ a.natAbs &&& b.natAbs = a.natAbs) = (x && (k == 0)) ∧ Below w.heap.size w w' := by
 obtain ⟨r1, v1, s1, n1, c1⟩ := h.is.raw h.sz (Nat.le_refl _)
 obtain ⟨r2, v2, s2, n2, c2⟩ := h'.is.raw h'.sz (Nat.le_refl _)
 have e1 := h.is.1
 have e2 := h'.is.1
 by_cases q1 : a < 0
 · refine (Under_neg t t' A A' n c n' c' _ _ w r1 r2 (by rw [v1, v2]; rfl) (by rw [e1, decide_eq_true q1]; rfl)).mono ?_
   rintro e w' ⟨rfl, hb⟩
   exact ⟨false, 2, rfl, by rw [decide_eq_false (fun q => by omega)]; rfl, hb⟩
 · by_cases q2 : b < 0
   · refine (Under_neg t t' A A' n c n' c' _ _ w r1 r2 (by rw [v1, v2]; rfl) (by rw [e2, decide_eq_true q2]; exact Bool.or_true _)).mono ?_
     rintro e w' ⟨rfl, hb⟩
     exact ⟨false, 2, rfl, by rw [decide_eq_false (fun q => by omega)]; rfl, hb⟩
   · rw [decide_eq_false q1] at e1
     rw [decide_eq_false q2] at e2
     subst e1 e2
     refine (Under_ok A A' n c n' c' _ _ w r1 r2 v1 v2).mono ?_
     rintro e w' ⟨rfl, hb⟩
     refine ⟨_, 0, rfl, ?_, hb⟩
     rw [val_words, val_words]
     by_cases q : a.natAbs &&& b.natAbs = a.natAbs
     · rw [decide_eq_true q, decide_eq_true ⟨by omega, by omega, q⟩]; rfl
     · rw [decide_eq_false q, decide_eq_false (fun z => q z.2.2)]; rfl
set_option maxHeartbeats 8000000 in
theorem linkHolds1_c (A : Option Addr) (n c : Nat) (zs : List Int) (w : World) (h : RdN w A n (zs.map nmOf)) (hz : ∀ i, i < zs.length → Sz (zs.getD i 0) 4096) (hn : zs.length = 3) :
 Calls Tryz.prog 40 #[.int .i64 1, .slice A n c] w (IsB (linkZ 1 (zs.getD 0 0) (zs.getD 1 0) (zs.getD 2 0)) w) := by
 obtain rfl : n = 3 := by have := h.len; rw [List.length_map] at this; omega
 obtain ⟨b, o, rfl, hE⟩ := zs_at h hz (by omega)
 obtain ⟨ta, Aa, na, ca, ha⟩ := hE 0 (by omega)
 obtain ⟨tb, Ab, nb, cb, hb⟩ := hE 1 (by omega)
 obtain ⟨tc, Ac, nc, cc, hc⟩ := hE 2 (by omega)
 generalize zs.getD 0 0 = za at ha ⊢
 generalize zs.getD 1 0 = zb at hb ⊢
 generalize zs.getD 2 0 = zc at hc ⊢
 have EA := Lib.hid (show NE w b (o) za ta Aa na ca from ha)
 have EB := Lib.hid (show NE w b (o + 2) zb tb Ab nb cb from hb)
 have EC := Lib.hid (show NE w b (o + 4) zc tc Ac nc cc from hc)
 have P := Lib.hid (Below.refl w.heap.size w)
 clear h hz hn hE ha hb hc
 go_enter Tryz.func40, Tryz.ntmps40
 have b0 := EB.out.c0
 have b1 := EB.out.c1
 obtain ⟨V, hV⟩ : ∃ V, V = zb.natAbs := ⟨_, rfl⟩
 have hraw := EB.out.iv.is.raw EB.out.iv.sz (Nat.le_refl _)
 rw [← hV] at hraw
 have HRAW := Lib.hid hraw
 have HVB := Lib.hid hV
 have HTB := Lib.hid EB.out.iv.is.1
 clear hraw hV
 go_wp2_with fail
 refine (Small_c tb Ab nb cb V _ HRAW.out.1 HRAW.out.2.1).mono ?_
 rintro e w1 ⟨rfl, hb⟩
 replace EA := Lib.hid (EA.out.next hb)
 replace EC := Lib.hid (EC.out.next hb)
 replace P := Lib.hid (P.out.trans (hb.mono P.out.size))
 have hsg : sgn tb V = zb := by
  have h1 := HTB.out
  have h2 := HVB.out
  rw [h2, h1]
  exact sgn_self zb
 have HU2 := Lib.hid (show smallB tb V = decide (-9223372036854775808 ≤ zb ∧ zb < 9223372036854775808) by
  rw [← hsg]
  cases e : smallB tb V with
  | true => exact (decide_eq_true (smallB_iff.1 e)).symm
  | false => exact (decide_eq_false (fun q => by rw [smallB_iff.2 q] at e; cases e)).symm)
 clear hb b0 b1 HRAW EB
 obtain ⟨u, hu⟩ : ∃ u, u = smallB tb V := ⟨_, rfl⟩
 rw [← hu] at HU2 ⊢
 rw [hsg]
 obtain ⟨sv, hsv⟩ : ∃ sv, sv = if u = true then zb else 0 := ⟨_, rfl⟩
 rw [← hsv]
 have HSV := Lib.hid (show u = true → sv = zb from fun e => by rw [hsv, if_pos e])
 clear hu hsv hsg HVB HTB
 go_upto_region 4 with (fail)
 refine wp_region_held_drew (S := (fun w' => w'.cell? ⟨b, o, none⟩ = some (.bool ta) ∧ w'.cell? ⟨b, (o + 1), none⟩ = some (.slice Aa na ca) ∧ w'.cell? ⟨b, (o + 4), none⟩ = some (.bool tc) ∧ w'.cell? ⟨b, (o + 5), none⟩ = some (.slice Ac nc cc))) (by kernel_rfl) (⟨cell_drq EA.out.c0, cell_drq EA.out.c1, cell_drq EC.out.c0, cell_drq EC.out.c1⟩) (fun hHeld => ?_)
 replace EA := Lib.hid (EA.out.next (Below.refl w1.heap.size w1).drew)
 replace EC := Lib.hid (EC.out.next (Below.refl w1.heap.size w1).drew)
 replace P := Lib.hid (P.out.trans ((Below.refl w1.heap.size w1).drew.mono P.out.size))
 generalize w1.drew = D1 at EA EC P hHeld ⊢
 refine tkk 0 22 rfl rfl (by kernel_rfl) (fun _ _ _ _ h => h) (by rfl) (fun w h => by obtain ⟨h0, h1, h2, h3⟩ := h; go_simp; rfl) (by assumption) ?_
 simp only [set0, set1]
 refine tkk 1 23 rfl rfl (by kernel_rfl) (fun _ _ _ _ h => h) (by rfl) (fun w h => by obtain ⟨h0, h1, h2, h3⟩ := h; go_simp; rfl) (by assumption) ?_
 simp only [set0, set1]
 refine tkk 2 24 rfl rfl (by kernel_rfl) (fun _ _ _ _ h => h) (by rfl) (fun w h => by obtain ⟨h0, h1, h2, h3⟩ := h; go_simp; rfl) (by assumption) ?_
 simp only [set0, set1]
 refine tkk 3 25 rfl rfl (by kernel_rfl) (fun _ _ _ _ h => h) (by rfl) (fun w h => by obtain ⟨h0, h1, h2, h3⟩ := h; go_simp; rfl) (by assumption) ?_
 simp only [set0, set1]
 refine tkk 4 26 rfl rfl (by kernel_rfl) (fun _ _ _ _ h => h) (by rfl) (fun w h => by obtain ⟨h0, h1, h2, h3⟩ := h; go_simp; rfl) (by assumption) ?_
 simp only [set0, set1]
 refine tkk 5 27 rfl rfl (by kernel_rfl) (fun _ _ _ _ h => h) (by rfl) (fun w h => by obtain ⟨h0, h1, h2, h3⟩ := h; go_simp; rfl) (by assumption) ?_
 simp only [set0, set1]
 refine wpAnyH_ready (rs := [6]) (by kernel_rfl) (by simp) ?_
 refine AllReadyH.cons rfl (fun K hK => ?_) AllReadyH.nil
 go_simp
 refine (Index_all EA.out.iv EC.out.iv).mono ?_
 rintro e v2 ⟨r, ke, rfl, hb, hd⟩
 have HD := Lib.hid hd
 replace EA := Lib.hid (EA.out.next hb)
 replace EC := Lib.hid (EC.out.next hb)
 replace P := Lib.hid (P.out.trans (hb.mono P.out.size))
 clear hHeld hb hd
 refine hK.out _ _ (⟨EA.out.c0, EA.out.c1, EC.out.c0, EC.out.c1⟩) (fun hHeld => ?_)
 clear hK K
 refine tkk 7 21 rfl rfl (by kernel_rfl) (fun _ _ _ _ h => h) (by rfl) (fun w h => by obtain ⟨h0, h1, h2, h3⟩ := h; go_simp; rfl) (by assumption) ?_
 simp only [set0, set1]
 refine tkk 8 29 rfl rfl (by kernel_rfl) (fun _ _ _ _ h => h) (by rfl) (fun w h => by obtain ⟨h0, h1, h2, h3⟩ := h; go_simp; rfl) (by assumption) ?_
 simp only [set0, set1]
 refine tkk 9 30 rfl rfl (by kernel_rfl) (fun _ _ _ _ h => h) (by rfl) (fun w h => by obtain ⟨h0, h1, h2, h3⟩ := h; go_simp; rfl) (by assumption) ?_
 simp only [set0, set1]
 refine tkk 10 7 rfl rfl (by kernel_rfl) (fun _ _ _ _ h => h) (by rfl) (fun w h => by obtain ⟨h0, h1, h2, h3⟩ := h; go_simp; rfl) (by assumption) ?_
 simp only [set0, set1]
 refine tkk 11 8 rfl rfl (by kernel_rfl) (fun _ _ _ _ h => h) (by rfl) (fun w h => by obtain ⟨h0, h1, h2, h3⟩ := h; go_simp; rfl) (by assumption) ?_
 clear hHeld
 refine wpAnyH_done (by kernel_rfl) ?_ _
 have HF := Lib.hid (psi_says EC.out.iv.sz HU2.out HSV.out HD.out)
 clear HU2 HSV HD EA EC
 cases u with
 | false =>
   go_wp2
   go_ret
   exact ⟨by rw [HF.out] <;> rfl, P.out⟩
 | true =>
 by_cases q1 : 1 ≤ sv
 case neg =>
  have t1 : decide (1 ≤ sv) = false := decide_eq_false q1
  go_wp2
  go_ret
  exact ⟨by rw [HF.out, t1] <;> rfl, P.out⟩
 have t1 : decide (1 ≤ sv) = true := decide_eq_true q1
 rw [t1] at HF
 by_cases q2 : ke = 0
 case neg =>
  have t2 : (ke == 0) = false := by rw [beq_eq_false_iff_ne]; exact q2
  rw [t2] at HF
  go_wp2
  go_ret
  exact ⟨by rw [HF.out] <;> rfl, P.out⟩
 have t2 : (ke == 0) = true := by rw [q2]; rfl
 rw [t2] at HF
 clear q2
 have HF2 := Lib.hid (show linkZ 1 za zb zc = (r == sv) from HF.out)
 clear HF
 generalize hrs : (r == sv) = x at HF2
 go_wp2
 go_ret
 exact ⟨by rw [HF2.out] <;> rfl, P.out⟩
set_option maxHeartbeats 8000000 in
theorem linkHolds2_c (A : Option Addr) (n c : Nat) (zs : List Int) (w : World) (h : RdN w A n (zs.map nmOf)) (hz : ∀ i, i < zs.length → Sz (zs.getD i 0) 4096) (hn : zs.length = 3) :
 Calls Tryz.prog 40 #[.int .i64 2, .slice A n c] w (IsB (linkZ 2 (zs.getD 0 0) (zs.getD 1 0) (zs.getD 2 0)) w) := by
 obtain rfl : n = 3 := by have := h.len; rw [List.length_map] at this; omega
 obtain ⟨b, o, rfl, hE⟩ := zs_at h hz (by omega)
 obtain ⟨ta, Aa, na, ca, ha⟩ := hE 0 (by omega)
 obtain ⟨tb, Ab, nb, cb, hb⟩ := hE 1 (by omega)
 obtain ⟨tc, Ac, nc, cc, hc⟩ := hE 2 (by omega)
 generalize zs.getD 0 0 = za at ha ⊢
 generalize zs.getD 1 0 = zb at hb ⊢
 generalize zs.getD 2 0 = zc at hc ⊢
 have EA := Lib.hid (show NE w b (o) za ta Aa na ca from ha)
 have EB := Lib.hid (show NE w b (o + 2) zb tb Ab nb cb from hb)
 have EC := Lib.hid (show NE w b (o + 4) zc tc Ac nc cc from hc)
 have P := Lib.hid (Below.refl w.heap.size w)
 clear h hz hn hE ha hb hc
 go_enter Tryz.func40, Tryz.ntmps40
 go_upto_region 7 with (fail)
 refine wp_region_held_drew (S := (fun w' => w'.cell? ⟨b, o, none⟩ = some (.bool ta) ∧ w'.cell? ⟨b, (o + 1), none⟩ = some (.slice Aa na ca) ∧ w'.cell? ⟨b, (o + 2), none⟩ = some (.bool tb) ∧ w'.cell? ⟨b, (o + 3), none⟩ = some (.slice Ab nb cb) ∧ w'.cell? ⟨b, (o + 4), none⟩ = some (.bool tc) ∧ w'.cell? ⟨b, (o + 5), none⟩ = some (.slice Ac nc cc))) (by kernel_rfl) (⟨cell_drq EA.out.c0, cell_drq EA.out.c1, cell_drq EB.out.c0, cell_drq EB.out.c1, cell_drq EC.out.c0, cell_drq EC.out.c1⟩) (fun hHeld => ?_)
 replace EA := Lib.hid (EA.out.next (Below.refl w.heap.size w).drew)
 replace EB := Lib.hid (EB.out.next (Below.refl w.heap.size w).drew)
 replace EC := Lib.hid (EC.out.next (Below.refl w.heap.size w).drew)
 replace P := Lib.hid (P.out.trans ((Below.refl w.heap.size w).drew.mono P.out.size))
 generalize w.drew = D3 at EA EB EC P hHeld ⊢
 refine tkk 0 47 rfl rfl (by kernel_rfl) (fun _ _ _ _ h => h) (by rfl) (fun w h => by obtain ⟨h0, h1, h2, h3, h4, h5⟩ := h; go_simp; rfl) (by assumption) ?_
 simp only [set0, set1]
 refine tkk 1 48 rfl rfl (by kernel_rfl) (fun _ _ _ _ h => h) (by rfl) (fun w h => by obtain ⟨h0, h1, h2, h3, h4, h5⟩ := h; go_simp; rfl) (by assumption) ?_
 simp only [set0, set1]
 refine tkk 2 49 rfl rfl (by kernel_rfl) (fun _ _ _ _ h => h) (by rfl) (fun w h => by obtain ⟨h0, h1, h2, h3, h4, h5⟩ := h; go_simp; rfl) (by assumption) ?_
 simp only [set0, set1]
 refine tkk 3 50 rfl rfl (by kernel_rfl) (fun _ _ _ _ h => h) (by rfl) (fun w h => by obtain ⟨h0, h1, h2, h3, h4, h5⟩ := h; go_simp; rfl) (by assumption) ?_
 simp only [set0, set1]
 refine tkk 4 51 rfl rfl (by kernel_rfl) (fun _ _ _ _ h => h) (by rfl) (fun w h => by obtain ⟨h0, h1, h2, h3, h4, h5⟩ := h; go_simp; rfl) (by assumption) ?_
 simp only [set0, set1]
 refine tkk 5 52 rfl rfl (by kernel_rfl) (fun _ _ _ _ h => h) (by rfl) (fun w h => by obtain ⟨h0, h1, h2, h3, h4, h5⟩ := h; go_simp; rfl) (by assumption) ?_
 simp only [set0, set1]
 refine tkk 6 53 rfl rfl (by kernel_rfl) (fun _ _ _ _ h => h) (by rfl) (fun w h => by obtain ⟨h0, h1, h2, h3, h4, h5⟩ := h; go_simp; rfl) (by assumption) ?_
 simp only [set0, set1]
 refine tkk 7 54 rfl rfl (by kernel_rfl) (fun _ _ _ _ h => h) (by rfl) (fun w h => by obtain ⟨h0, h1, h2, h3, h4, h5⟩ := h; go_simp; rfl) (by assumption) ?_
 simp only [set0, set1]
 refine tkk 8 55 rfl rfl (by kernel_rfl) (fun _ _ _ _ h => h) (by rfl) (fun w h => by obtain ⟨h0, h1, h2, h3, h4, h5⟩ := h; go_simp; rfl) (by assumption) ?_
 simp only [set0, set1]
 refine wpAnyH_ready (rs := [9]) (by kernel_rfl) (by simp) ?_
 refine AllReadyH.cons rfl (fun K hK => ?_) AllReadyH.nil
 go_simp
 refine (isPower_c EA.out.iv EB.out.iv EC.out.iv).mono ?_
 rintro e v4 ⟨rfl, hb⟩
 replace EA := Lib.hid (EA.out.next hb)
 replace EB := Lib.hid (EB.out.next hb)
 replace EC := Lib.hid (EC.out.next hb)
 replace P := Lib.hid (P.out.trans (hb.mono P.out.size))
 have HF := Lib.hid (show linkZ 2 za zb zc = decide (1 ≤ za ∧ 0 ≤ zb ∧ za ^ zb.toNat = zc) from rfl)
 generalize decide (1 ≤ za ∧ 0 ≤ zb ∧ za ^ zb.toNat = zc) = x at HF ⊢
 clear hHeld hb
 refine hK.out _ _ (⟨EA.out.c0, EA.out.c1, EB.out.c0, EB.out.c1, EC.out.c0, EC.out.c1⟩) (fun hHeld => ?_)
 clear hK K
 refine tkk 10 4 rfl rfl (by kernel_rfl) (fun _ _ _ _ h => h) (by rfl) (fun w h => by obtain ⟨h0, h1, h2, h3, h4, h5⟩ := h; go_simp; rfl) (by assumption) ?_
 clear hHeld
 refine wpAnyH_done (by kernel_rfl) ?_ _
 go_wp2
 go_ret
 exact ⟨by rw [HF.out] <;> rfl, P.out⟩
set_option maxHeartbeats 8000000 in
theorem linkHolds3_c (A : Option Addr) (n c : Nat) (zs : List Int) (w : World) (h : RdN w A n (zs.map nmOf)) (hz : ∀ i, i < zs.length → Sz (zs.getD i 0) 4096) (hn : zs.length = 2) :
 Calls Tryz.prog 40 #[.int .i64 3, .slice A n c] w (IsB (linkZ 3 (zs.getD 0 0) (zs.getD 1 0) (zs.getD 2 0)) w) := by
 obtain rfl : n = 2 := by have := h.len; rw [List.length_map] at this; omega
 obtain ⟨b, o, rfl, hE⟩ := zs_at h hz (by omega)
 obtain ⟨ta, Aa, na, ca, ha⟩ := hE 0 (by omega)
 obtain ⟨tb, Ab, nb, cb, hb⟩ := hE 1 (by omega)
 generalize zs.getD 0 0 = za at ha ⊢
 generalize zs.getD 1 0 = zb at hb ⊢
 generalize zs.getD 2 0 = zc 
 have EA := Lib.hid (show NE w b (o) za ta Aa na ca from ha)
 have EB := Lib.hid (show NE w b (o + 2) zb tb Ab nb cb from hb)
 have P := Lib.hid (Below.refl w.heap.size w)
 clear h hz hn hE ha hb
 go_enter Tryz.func40, Tryz.ntmps40
 have HU := Lib.hid (Under_all EA.out.iv EB.out.iv)
 clear HU
 go_upto_region 9 with (fail)
 refine wp_region_held_drew (S := (fun w' => w'.cell? ⟨b, o, none⟩ = some (.bool ta) ∧ w'.cell? ⟨b, (o + 1), none⟩ = some (.slice Aa na ca) ∧ w'.cell? ⟨b, (o + 2), none⟩ = some (.bool tb) ∧ w'.cell? ⟨b, (o + 3), none⟩ = some (.slice Ab nb cb))) (by kernel_rfl) (⟨cell_drq EA.out.c0, cell_drq EA.out.c1, cell_drq EB.out.c0, cell_drq EB.out.c1⟩) (fun hHeld => ?_)
 replace EA := Lib.hid (EA.out.next (Below.refl w.heap.size w).drew)
 replace EB := Lib.hid (EB.out.next (Below.refl w.heap.size w).drew)
 replace P := Lib.hid (P.out.trans ((Below.refl w.heap.size w).drew.mono P.out.size))
 generalize w.drew = D5 at EA EB P hHeld ⊢
 refine tkk 0 60 rfl rfl (by kernel_rfl) (fun _ _ _ _ h => h) (by rfl) (fun w h => by obtain ⟨h0, h1, h2, h3⟩ := h; go_simp; rfl) (by assumption) ?_
 simp only [set0, set1]
 refine tkk 1 61 rfl rfl (by kernel_rfl) (fun _ _ _ _ h => h) (by rfl) (fun w h => by obtain ⟨h0, h1, h2, h3⟩ := h; go_simp; rfl) (by assumption) ?_
 simp only [set0, set1]
 refine tkk 2 62 rfl rfl (by kernel_rfl) (fun _ _ _ _ h => h) (by rfl) (fun w h => by obtain ⟨h0, h1, h2, h3⟩ := h; go_simp; rfl) (by assumption) ?_
 simp only [set0, set1]
 refine tkk 3 63 rfl rfl (by kernel_rfl) (fun _ _ _ _ h => h) (by rfl) (fun w h => by obtain ⟨h0, h1, h2, h3⟩ := h; go_simp; rfl) (by assumption) ?_
 simp only [set0, set1]
 refine tkk 4 64 rfl rfl (by kernel_rfl) (fun _ _ _ _ h => h) (by rfl) (fun w h => by obtain ⟨h0, h1, h2, h3⟩ := h; go_simp; rfl) (by assumption) ?_
 simp only [set0, set1]
 refine tkk 5 65 rfl rfl (by kernel_rfl) (fun _ _ _ _ h => h) (by rfl) (fun w h => by obtain ⟨h0, h1, h2, h3⟩ := h; go_simp; rfl) (by assumption) ?_
 simp only [set0, set1]
 refine wpAnyH_ready (rs := [6]) (by kernel_rfl) (by simp) ?_
 refine AllReadyH.cons rfl (fun K hK => ?_) AllReadyH.nil
 go_simp
 refine (Under_all EA.out.iv EB.out.iv).mono ?_
 rintro e v6 ⟨x, ke, rfl, hx, hb⟩
 replace EA := Lib.hid (EA.out.next hb)
 replace EB := Lib.hid (EB.out.next hb)
 replace P := Lib.hid (P.out.trans (hb.mono P.out.size))
 have HF := Lib.hid (show linkZ 3 za zb zc = (x && (ke == 0)) from hx)
 clear hHeld hb hx
 refine hK.out _ _ (⟨EA.out.c0, EA.out.c1, EB.out.c0, EB.out.c1⟩) (fun hHeld => ?_)
 clear hK K
 refine tkk 7 59 rfl rfl (by kernel_rfl) (fun _ _ _ _ h => h) (by rfl) (fun w h => by obtain ⟨h0, h1, h2, h3⟩ := h; go_simp; rfl) (by assumption) ?_
 simp only [set0, set1]
 refine tkk 8 67 rfl rfl (by kernel_rfl) (fun _ _ _ _ h => h) (by rfl) (fun w h => by obtain ⟨h0, h1, h2, h3⟩ := h; go_simp; rfl) (by assumption) ?_
 simp only [set0, set1]
 refine tkk 9 68 rfl rfl (by kernel_rfl) (fun _ _ _ _ h => h) (by rfl) (fun w h => by obtain ⟨h0, h1, h2, h3⟩ := h; go_simp; rfl) (by assumption) ?_
 simp only [set0, set1]
 refine tkk 10 9 rfl rfl (by kernel_rfl) (fun _ _ _ _ h => h) (by rfl) (fun w h => by obtain ⟨h0, h1, h2, h3⟩ := h; go_simp; rfl) (by assumption) ?_
 simp only [set0, set1]
 refine tkk 11 10 rfl rfl (by kernel_rfl) (fun _ _ _ _ h => h) (by rfl) (fun w h => by obtain ⟨h0, h1, h2, h3⟩ := h; go_simp; rfl) (by assumption) ?_
 clear hHeld
 refine wpAnyH_done (by kernel_rfl) ?_ _
 clear EA EB
 cases x with
 | false =>
   go_wp2
   go_ret
   exact ⟨by rw [HF.out] <;> rfl, P.out⟩
 | true =>
 have HF2 := Lib.hid (show linkZ 3 za zb zc = (ke == 0) from HF.out)
 clear HF
 generalize hk : (ke == 0) = x at HF2
 go_wp2
 go_ret
 exact ⟨by rw [HF2.out] <;> rfl, P.out⟩
set_option maxHeartbeats 8000000 in
theorem linkHolds0_c (A : Option Addr) (n c : Nat) (zs : List Int) (w : World) (h : RdN w A n (zs.map nmOf)) (hz : ∀ i, i < zs.length → Sz (zs.getD i 0) 4096) (hn : zs.length = 1) :
 Calls Tryz.prog 40 #[.int .i64 0, .slice A n c] w (IsB (linkZ 0 (zs.getD 0 0) (zs.getD 1 0) (zs.getD 2 0)) w) := by
 obtain rfl : n = 1 := by have := h.len; rw [List.length_map] at this; omega
 obtain ⟨b, o, rfl, hE⟩ := zs_at h hz (by omega)
 obtain ⟨ta, Aa, na, ca, ha⟩ := hE 0 (by omega)
 generalize zs.getD 0 0 = za at ha ⊢
 generalize zs.getD 1 0 = zb 
 generalize zs.getD 2 0 = zc 
 have EA := Lib.hid (show NE w b (o) za ta Aa na ca from ha)
 have P := Lib.hid (Below.refl w.heap.size w)
 clear h hz hn hE ha
 go_enter Tryz.func40, Tryz.ntmps40
 have a0 := EA.out.c0
 have a1 := EA.out.c1
 have HF := Lib.hid (show linkZ 0 za zb zc = decide (na = 0) by
  have h1 := zero_iff EA.out.iv.is
  show decide (za = 0) = _
  by_cases h : za = 0
  · rw [decide_eq_true h, decide_eq_true (h1.2 h)]
  · rw [decide_eq_false h, decide_eq_false (fun q => h (h1.1 q))])
 go_wp2_with fail
 refine (czero_c ta Aa na ca w).mono ?_
 rintro e w1 ⟨rfl, hb⟩
 replace P := Lib.hid (P.out.trans (hb.mono P.out.size))
 clear hb a0 a1 EA
 generalize decide (na = 0) = x at HF ⊢
 go_wp2
 go_ret
 exact ⟨by rw [HF.out] <;> rfl, P.out⟩
theorem linkHolds_c (kind : Int) (A : Option Addr) (n c : Nat) (zs : List Int) (w : World) (h0 : 0 ≤ kind) (h4 : kind < 4) (h : RdN w A n (zs.map nmOf)) (hz : ∀ i, i < zs.length → Sz (zs.getD i 0) 4096) (hn : (zs.length : Int) = polysOf kind) :
 Calls Tryz.prog 40 #[.int .i64 kind, .slice A n c] w (IsB (linkZ kind (zs.getD 0 0) (zs.getD 1 0) (zs.getD 2 0)) w) := by
 rcases (show kind = 0 ∨ kind = 1 ∨ kind = 2 ∨ kind = 3 by omega) with rfl | rfl | rfl | rfl
 · exact linkHolds0_c A n c zs w h hz (by have e : polysOf 0 = 1 := (by decide); omega)
 · exact linkHolds1_c A n c zs w h hz (by have e : polysOf 1 = 3 := (by decide); omega)
 · exact linkHolds2_c A n c zs w h hz (by have e : polysOf 2 = 3 := (by decide); omega)
 · exact linkHolds3_c A n c zs w h hz (by have e : polysOf 3 = 2 := (by decide); omega)
def linkB (l : Lnk) (ns : List Nmr) : Bool := linkZ l.kind ((valsZ l.ps (ownOf l.vs ns)).getD 0 0) ((valsZ l.ps (ownOf l.vs ns)).getD 1 0) ((valsZ l.ps (ownOf l.vs ns)).getD 2 0)
def holdsB (ls : List Lnk) (ns : List Nmr) : Bool := decide (∀ i, i < ls.length → linkB (lnkAt ls i) ns = true)
def HR (T : Nat) (ls : List Lnk) (ns : List Nmr) (w : World) (e : Ending) (w' : World) : Prop :=
 ∃ r k, e = .returned (.tuple #[.bool r, .int .i64 k]) ∧ St T k ∧ (k = 0 → r = holdsB ls ns) ∧ (k ≠ 0 → r = false) ∧ Below w.heap.size w w'
def RetE (r : Bool) (k : Int) (w : World) (e : Ending) (w' : World) : Prop := e = .returned (.tuple #[.bool r, .int .i64 k]) ∧ Below w.heap.size w w'
def Ok1 (ls : List Lnk) (ns : List Nmr) : Prop := 0 < ls.length → ∀ j, j < (lnkAt ls 0).ps.length → Sz (pVal (plyAt (lnkAt ls 0).ps j).ts (ownOf (lnkAt ls 0).vs ns)) 4096
structure HoldsP (T : Nat) (V : Int) (ls : List Lnk) (ns : List Nmr) (w : World) (e : Ending) (w' : World) : Prop where
 form : (validS V ls && allB ns) = false → RetE false 1 w e w'
 arg : (validS V ls && allB ns) = true → (¬ (ns.length : Int) = V ∨ natB ns = false) → RetE false 2 w e w'
 val : (validS V ls && allB ns) = true → (ns.length : Int) = V → natB ns = true → HR T ls ns w e w'
 fit : ∀ r, e = .returned (.tuple #[.bool r, .int .i64 0]) → Ok1 ls ns
theorem HoldsP.of_form {T : Nat} {V : Int} {ls : List Lnk} {ns : List Nmr} {w w' : World} {e : Ending} (h : (validS V ls && allB ns) = false) (hb : RetE false 1 w e w') : HoldsP T V ls ns w e w' :=
 ⟨fun _ => hb, fun h' => absurd (h.symm.trans h') (by decide), fun h' => absurd (h.symm.trans h') (by decide), fun r q => absurd (hb.1.symm.trans q) (by simp)⟩
theorem HoldsP.of_arg {T : Nat} {V : Int} {ls : List Lnk} {ns : List Nmr} {w w' : World} {e : Ending} (h : (validS V ls && allB ns) = true) (hl : ¬ (ns.length : Int) = V ∨ natB ns = false) (hb : RetE false 2 w e w') : HoldsP T V ls ns w e w' :=
 ⟨fun h' => absurd (h.symm.trans h') (by decide), fun _ _ => hb, fun _ h' h2 => (by
  rcases hl with q | q
  · exact absurd h' q
  · rw [q] at h2; cases h2), fun r q => absurd (hb.1.symm.trans q) (by simp)⟩
theorem HoldsP.of_val {T : Nat} {V : Int} {ls : List Lnk} {ns : List Nmr} {w w' : World} {e : Ending} (h : (validS V ls && allB ns) = true) (hl : (ns.length : Int) = V) (hn : natB ns = true) (hb : HR T ls ns w e w') (hf : ∀ r, e = .returned (.tuple #[.bool r, .int .i64 0]) → Ok1 ls ns) : HoldsP T V ls ns w e w' :=
 ⟨fun h' => absurd (h.symm.trans h') (by decide), fun _ h' => absurd h' (fun q => q.elim (fun q => q hl) (fun q => by rw [q] at hn; cases hn)), fun _ _ _ => hb, hf⟩
theorem vs_at {V : Int} {ls : List Lnk} (h : validS V ls = true) {k : Nat} (hk : k < ls.length) : validLnk (lnkAt ls k) V = true := by
 simp only [validS, Bool.and_eq_true, decide_eq_true_eq] at h
 exact h.2 k hk
theorem vs_bounds {V : Int} {ls : List Lnk} (h : validS V ls = true) : 0 ≤ V ∧ V ≤ 20000 ∧ ls.length ≤ 20000 := by
 simp only [validS, Bool.and_eq_true, decide_eq_true_eq] at h
 exact h.1
theorem valsZ_len (ps : List Ply) (os : List Nmr) : (valsZ ps os).length = ps.length := List.length_map ..
theorem valsZ_at {ps : List Ply} {os : List Nmr} {i : Nat} (h : i < ps.length) : (valsZ ps os).getD i 0 = pVal (plyAt ps i).ts os := by
 simp [valsZ, plyAt, List.getD_eq_getElem?_getD, List.getElem?_eq_getElem h]
set_option maxHeartbeats 8000000 in
theorem sysHolds_c (T : Nat) (V : Int) (A : Option Addr) (n c : Nat) (ls : List Lnk) (X : Option Addr) (nx cx : Nat) (ns : List Nmr) (w : World) (h : RdL w A n ls) (h' : RdN w X nx ns) (hx : nx ≤ 9223372036854775807)
 (hT : validS V ls = true → (ns.length : Int) = V → ∀ i, i < ls.length → ∀ j, j < (lnkAt ls i).ps.length → allV (plyAt (lnkAt ls i).ps j).ts (ownOf (lnkAt ls i).vs ns) (plyAt (lnkAt ls i).ps j).ts.length ≤ T) :
 Calls Tryz.prog 11 #[aggS V A n c, .slice X nx cx] w (HoldsP T V ls ns w) := by
 have k0 := bel_alloc w (boxS V A n c)
 have P := Lib.hid k0
 have Y := Lib.hid (BxY.new w V A n c)
 have HI := Lib.hid (And.intro h h')
 have HX := Lib.hid hx
 have HT := Lib.hid hT
 have HL := Lib.hid (And.intro h.len h'.len)
 clear k0 h h' hx hT
 go_enter Tryz.func11, Tryz.ntmps11
 go_upto_region 1 with (fail)
 generalize w.alloc (boxS V A n c) = W0 at P Y ⊢
 obtain ⟨g, hg⟩ : ∃ g, g = w.heap.size := ⟨_, rfl⟩
 have HG := Lib.hid hg
 rw [← hg] at Y ⊢
 clear hg
 have a0 := Y.out.c0
 have a1 := Y.out.c1
 go_wp2_with fail
 refine (sysValid_c V A n c ls _ (HI.out.1.below P.out)).mono ?_
 rintro e w1 ⟨rfl, hb⟩
 replace P := Lib.hid (P.out.trans (hb.mono P.out.size))
 replace Y := Lib.hid (Y.out.next hb)
 clear hb a0 a1
 obtain ⟨v, hv⟩ : ∃ v, v = validS V ls := ⟨_, rfl⟩
 rw [← hv]
 have HV := Lib.hid hv
 clear hv
 cases v with
 | false =>
   have HF := Lib.hid (show (validS V ls && allB ns) = false by rw [← HV.out]; rfl)
   go_wp2
   refine bodyPost_ret (v := .tuple #[.bool false, .int .i64 1]) (by simp [results, Tryz.results11, go_sem]) rfl ?_
   exact HoldsP.of_form HF.out ⟨rfl, P.out⟩
 | true =>
 go_wp2_with fail
 refine (calcValid_c X nx cx ns _ (HI.out.2.below P.out) HX.out).mono ?_
 rintro e w2 ⟨rfl, hb⟩
 replace P := Lib.hid (P.out.trans (hb.mono P.out.size))
 replace Y := Lib.hid (Y.out.next hb)
 clear hb
 obtain ⟨u, hu⟩ : ∃ v, v = allB ns := ⟨_, rfl⟩
 rw [← hu]
 have HU := Lib.hid hu
 clear hu
 cases u with
 | false =>
   have HF := Lib.hid (show (validS V ls && allB ns) = false by rw [← HV.out, ← HU.out]; rfl)
   go_wp2
   refine bodyPost_ret (v := .tuple #[.bool false, .int .i64 1]) (by simp [results, Tryz.results11, go_sem]) rfl ?_
   exact HoldsP.of_form HF.out ⟨rfl, P.out⟩
 | true =>
 have HVU := Lib.hid (show (validS V ls && allB ns) = true by rw [← HV.out, ← HU.out]; rfl)
 have a0 := Y.out.c0
 by_cases hm : (nx : Int) = V
 case neg =>
  have t0 : ((nx : Int) != V) = true := by rw [bne_iff_ne]; exact hm
  have HF := Lib.hid (show ¬ (ns.length : Int) = V by rw [HL.out.2]; exact hm)
  clear hm
  go_wp2
  refine bodyPost_ret (v := .tuple #[.bool false, .int .i64 2]) (by simp [results, Tryz.results11, go_sem]) rfl ?_
  exact HoldsP.of_arg HVU.out (.inl HF.out) ⟨rfl, P.out⟩
 case pos =>
 have t0 : ((nx : Int) != V) = false := by rw [hm]; exact bne_self_eq_false _
 have HM := Lib.hid hm
 clear hm
 go_wp2_with fail
 refine (calcNatural_c X nx cx ns _ (HI.out.2.below P.out) HX.out).mono ?_
 rintro e w3 ⟨rfl, hb⟩
 replace P := Lib.hid (P.out.trans (hb.mono P.out.size))
 replace Y := Lib.hid (Y.out.next hb)
 clear hb a0 t0
 obtain ⟨u, hu⟩ : ∃ v, v = natB ns := ⟨_, rfl⟩
 rw [← hu]
 have HN := Lib.hid hu
 clear hu
 cases u with
 | false =>
   go_wp2
   refine bodyPost_ret (v := .tuple #[.bool false, .int .i64 2]) (by simp [results, Tryz.results11, go_sem]) rfl ?_
   exact HoldsP.of_arg HVU.out (.inr HN.out.symm) ⟨rfl, P.out⟩
 | true =>
 have HM2 := Lib.hid (show (ns.length : Int) = V by rw [HL.out.2]; exact HM.out)
 have HT2 := Lib.hid (HT.out HV.out.symm HM2.out)
 have HBD := Lib.hid (vs_bounds HV.out.symm)
 have hnn : n ≤ 20000 := by have h1 := HBD.out.2.2; have h2 := HL.out.1; omega
 obtain ⟨b, hbb⟩ : ∃ b, b = w3.heap.size := ⟨_, rfl⟩
 have k1 := bel_alloc w3 (.cells #[.int .i64 0] 77)
 have CC := Lib.hid (show Cc (w3.alloc (.cells #[.int .i64 0] 77)) b 0 from by
  rw [hbb]
  exact ⟨by simp, by go_simp, by go_simp⟩)
 have HB := Lib.hid (show w.heap.size ≤ b by rw [hbb]; exact P.out.size)
 have P2 := Lib.hid (P.out.trans (k1.mono P.out.size))
 have Y2 := Lib.hid (Y.out.next k1)
 clear k1 P Y HT
 go_upto_region 6 with (fail)
 rw [← hbb]
 clear hbb
 generalize w3.alloc (.cells #[.int .i64 0] 77) = W1 at CC P2 Y2 ⊢
 have a1 := Y2.out.c1
 go_wp2
 clear a1 Y2
 go_loopw [31] (fun v wr => ∃ j : Nat, v = .int .i64 (j : Int) ∧ j ≤ n ∧ Below w.heap.size w wr ∧ Cc wr b 0 ∧ (∀ i, i < j → linkB (lnkAt ls i) ns = true) ∧ (0 < j → Ok1 ls ns)) (fun v _ => n - (intOf v).toNat)
 case atStart => exact ⟨0, rfl, Nat.zero_le _, P2.out, CC.out, fun i hi => absurd hi (by omega), fun h0 => absurd h0 (by omega)⟩
 case round =>
  obtain ⟨j, rfl, hj, hp, hc, hall, hok⟩ := hrel
  clear P2 CC
  have P := Lib.hid hp
  have CC := Lib.hid hc
  have HA := Lib.hid hall
  have HOK := Lib.hid hok
  clear hp hc hall hok
  by_cases hjn : j < n
  · have t1 : decide ((j : Int) < (n : Int)) = true := decide_eq_true (by omega)
    have t1n : decide (j < n) = true := decide_eq_true hjn
    have hjI : (j : Int) < (n : Int) := by omega
    obtain ⟨bL, oL, rfl, hltL, hcL⟩ := HI.out.1.at_ (by omega)
    obtain ⟨B1, m1, d1, C1, p1, q1, hK⟩ := hcL j hjn
    obtain ⟨l, hl⟩ : ∃ x, x = lnkAt ls j := ⟨_, rfl⟩
    rw [← hl] at hK
    have HLK := Lib.hid hl
    have hK2 := hK.below hltL P.out
    have c0 := hK2.c0
    have c1 := hK2.c1
    have c2 := hK2.c2
    have HK := Lib.hid hK
    obtain ⟨kind, vs, ps⟩ := l
    dsimp only at c0
    clear hl hK hK2 hcL
    have k1 := bel_alloc wr (boxL kind B1 m1 d1 C1 p1 q1)
    have XL := Lib.hid (BxL.new wr kind B1 m1 d1 C1 p1 q1)
    have P2 := Lib.hid (P.out.trans (k1.mono P.out.size))
    have CC2 := Lib.hid (CC.out.below k1)
    have HGL := Lib.hid (show b < wr.heap.size from CC.out.lt)
    have hlk := vs_at HV.out.symm (k := j) (by have := HL.out.1; omega)
    rw [← HLK.out] at hlk
    have HVL := Lib.hid hlk
    have HLE := Lib.hid (vl_lens hlk)
    clear k1 P CC hlk
    go_upto_region 9 with (fail)
    generalize wr.alloc (boxL kind B1 m1 d1 C1 p1 q1) = W2 at XL P2 CC2 ⊢
    generalize wr.heap.size = gl at XL HGL ⊢
    clear c0 c1 c2
    have c0 := XL.out.c0
    have c1 := XL.out.c1
    have c2 := XL.out.c2
    go_wp2_with fail
    refine (values_c T b 0 w W2 kind B1 m1 d1 vs C1 p1 q1 ps X nx cx ns V P2.out HB.out CC2.out (St.zero T) HK.out.ri HK.out.rp HI.out.2 HVL.out HM.out HU.out.symm (by
     have h1 := HLE.out.2.2.1
     have h2 := HK.out.rp.len
     dsimp only at h1 h2
     simp only [polysOf] at h1
     split at h1
     · omega
     · split at h1 <;> omega) (by
     have h1 := HT2.out j (by have := HL.out.1; omega)
     rw [← HLK.out] at h1
     exact h1)).mono ?_
    rintro e W3 ⟨A5, c5, k5, rs, rfl, hs, hc, hr, hst, hz⟩
    have XL3 := Lib.hid (XL.out.stp (by have := HGL.out; omega) hs)
    have P3 := Lib.hid (P2.out.trans (hs.below P2.out.size HB.out))
    have CC3 := Lib.hid hc
    have RS := Lib.hid hr
    have ST := Lib.hid hst
    have HZ := Lib.hid hz
    clear hs hc hr hst hz XL P2 CC2 c0 c1 c2
    have b0 := CC3.out.c0
    by_cases hk5 : k5 = 0
    case neg =>
     have t2 : (k5 != 0) = true := by rw [bne_iff_ne]; exact hk5
     have HF := Lib.hid (show HR T ls ns w (.returned (.tuple #[.bool false, .int .i64 k5])) W3 from ⟨false, k5, rfl, ST.out, fun e => absurd e hk5, fun _ => rfl, P3.out⟩)
     have HF2 := Lib.hid (show ∀ r, Ending.returned (.tuple #[.bool false, .int .i64 k5]) = .returned (.tuple #[.bool r, .int .i64 0]) → Ok1 ls ns from fun r q => absurd (by simp at q; exact q.2) hk5)
     clear hk5
     go_upto_region 11 with (fail)
     go_region
     go_wp2
     refine bodyPost_ret (v := .tuple #[.bool false, .int .i64 k5]) (by simp [results, Tryz.results11, go_sem]) rfl ?_
     obtain ⟨r, k, e1, e2, e3, e4, e5⟩ := HF.out
     exact HoldsP.of_val HVU.out HM2.out HN.out.symm ⟨r, k, e1, e2, e3, e4, e5.drew⟩ HF2.out
    case pos =>
    subst hk5
    have t2 : ((0 : Int) != 0) = false := rfl
    obtain ⟨-, hz1, hz2⟩ := HZ.out rfl
    have RS2 := RS.out
    rw [hz1] at RS2
    have HLH := Lib.hid (linkHolds_c kind A5 ps.length c5 (valsZ ps (ownOf vs ns)) W3 HLE.out.1 HLE.out.2.1 RS2 (fun i hi => by
     rw [valsZ_len] at hi
     rw [valsZ_at hi]
     exact hz2 i hi) (by rw [valsZ_len]; exact HLE.out.2.2.1))
    have HO2 := Lib.hid (show Ok1 ls ns from by
     by_cases q : 0 < j
     · exact HOK.out q
     · obtain rfl : j = 0 := by omega
       intro _ i hi
       rw [← HLK.out] at hi ⊢
       exact hz2 i hi)
    clear hz1 hz2 RS2 RS HZ
    have c0 := XL3.out.c0
    go_wp2_with fail
    refine HLH.out.mono ?_
    rintro e W4 ⟨rfl, hb⟩
    obtain ⟨x, hx⟩ : ∃ x, x = linkZ kind ((valsZ ps (ownOf vs ns)).getD 0 0) ((valsZ ps (ownOf vs ns)).getD 1 0) ((valsZ ps (ownOf vs ns)).getD 2 0) := ⟨_, rfl⟩
    rw [← hx]
    have HX2 := Lib.hid (show linkB (lnkAt ls j) ns = x by rw [← HLK.out]; exact hx.symm)
    have P4 := Lib.hid (P3.out.trans (hb.mono P3.out.size))
    have CC4 := Lib.hid (CC3.out.below hb)
    clear hb hx HLH P3 CC3 XL3 c0 b0
    cases x with
    | false =>
      have HF := Lib.hid (show holdsB ls ns = false from decide_eq_false fun q => by
       have := q j (by have := HL.out.1; omega)
       rw [HX2.out] at this
       cases this)
      go_wp2
      refine bodyPost_ret (v := .tuple #[.bool false, .int .i64 0]) (by simp [results, Tryz.results11, go_sem]) rfl ?_
      exact HoldsP.of_val HVU.out HM2.out HN.out.symm ⟨false, 0, rfl, St.zero T, fun _ => HF.out.symm, fun _ => rfl, P4.out⟩ (fun _ _ => HO2.out)
    | true =>
      have HA2 := Lib.hid (show ∀ i, i < j + 1 → linkB (lnkAt ls i) ns = true from fun i hi => by
       by_cases e : i = j
       · rw [e]; exact HX2.out
       · exact HA.out i (by omega))
      go_wp2
      go_roundw
      case measure => simp [intOf]; omega
      case rel => exact ⟨j + 1, by go_num, by omega, P4.out, CC4.out, HA2.out, fun _ => HO2.out⟩
  · have e : j = n := by omega
    have t1 : decide ((j : Int) < (n : Int)) = false := decide_eq_false (by omega)
    have t1n : decide (j < n) = false := decide_eq_false hjn
    have HF := Lib.hid (show holdsB ls ns = true from decide_eq_true fun i hi => HA.out i (by have := HL.out.1; omega))
    have HO3 := Lib.hid (show Ok1 ls ns from by
     by_cases q : 0 < j
     · exact HOK.out q
     · intro h0; have := HL.out.1; omega)
    go_wp2
    refine bodyPost_ret (v := .tuple #[.bool true, .int .i64 0]) (by simp [results, Tryz.results11, go_sem]) rfl ?_
    exact HoldsP.of_val HVU.out HM2.out HN.out.symm ⟨true, 0, rfl, St.zero T, fun _ => HF.out.symm, fun h => absurd rfl h, P.out⟩ (fun _ _ => HO3.out)
end Go.Proofs.YteabokkofoomkaaGreat

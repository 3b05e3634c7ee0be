/- the first state -/
import Derived.Test.YthjdnidapbhdlaaDoorHl
set_option maxRecDepth 100000
namespace Go.Proofs.YthjdnidapbhdlaaDoor
open Go.RowKit
def inputM (R : Int) (zs : List Int) : Bool := allIn 1000 zs && decide ((zs.length : Int) = R)
structure SM (w W : World) (g : Nat) (R : Int) (A : Option Addr) (n c : Nat) (cs : List Ins) (B : Option Addr) (m : Nat) (zs : List Int) : Prop where
  below : Below w.heap.size w W
  ge : w.heap.size ≤ g
  bm : BoxM W g R A n c
  xr : BxS W (g + 1) 0 none 0 0
  rc : RdC W A n cs
  ri : RdI W B m zs
theorem SM.next {w W W' : World} {g : Nat} {R : Int} {A : Option Addr} {n c : Nat} {cs : List Ins} {B : Option Addr} {m : Nat} {zs : List Int} (h : SM w W g R A n c cs B m zs) (hb : Below W.heap.size W W') : SM w W' g R A n c cs B m zs :=
  ⟨h.below.trans (hb.mono h.below.size), h.ge, h.bm.next hb, h.xr.next hb, h.rc.below hb, h.ri.below hb⟩
theorem SM.start (R : Int) (A : Option Addr) (n c : Nat) (cs : List Ins) (B : Option Addr) (m : Nat) (zs : List Int) (w : World) (h : RdC w A n cs) (h' : RdI w B m zs) :
    SM w ((w.alloc (.cells #[.int .i64 R, .slice A n c] 43)).alloc (.cells #[.int .i64 0, .slice none 0 0] 46)) w.heap.size R A n c cs B m zs := by
  have k0 := bel_alloc w (.cells #[.int .i64 R, .slice A n c] 43)
  have k1 := bel_alloc (w.alloc (.cells #[.int .i64 R, .slice A n c] 43)) (.cells #[.int .i64 0, .slice none 0 0] 46)
  have b1 := BxS.new (w.alloc (.cells #[.int .i64 R, .slice A n c] 43)) 0 none 0 0
  rw [World.size_alloc] at b1
  exact ⟨k0.trans (k1.mono k0.size), Nat.le_refl _, (BoxM.new w R A n c).next k1, b1, (h.below k0).below k1, (h'.below k0).below k1⟩
set_option maxHeartbeats 4000000 in
theorem Start_form (R : Int) (A : Option Addr) (n c : Nat) (cs : List Ins) (B : Option Addr) (m d : Nat) (zs : List Int) (w : World) (h : RdC w A n cs) (h' : RdI w B m zs) (hv : validM R cs = false) :
    Calls Tryd.prog 62 #[.agg #[.int .i64 R, .slice A n c], .slice B m d] w (StP 0 [] 1 w) := by
  have E := Lib.hid (SM.start R A n c cs B m zs w h h')
  have HL := Lib.hid h'.len
  have HV := Lib.hid hv
  clear hv
  clear h h'
  go_enter Tryd.func62, Tryd.ntmps62
  go_upto_region 1 with (fail)
  generalize (w.alloc (.cells #[.int .i64 R, .slice A n c] 43)).alloc (.cells #[.int .i64 0, .slice none 0 0] 46) = W0 at E ⊢
  generalize w.heap.size = g at E ⊢
  have m0 := E.out.bm.c0
  have m1 := E.out.bm.c1
  go_wp2_with fail
  refine (Valid_c R A n c cs _ E.out.rc).mono ?_
  rw [HV.out]
  rintro e w1 ⟨rfl, hb⟩
  replace E := Lib.hid (E.out.next hb)
  clear hb m0 m1
  have m0 := E.out.bm.c0
  have m1 := E.out.bm.c1
  have r0 := E.out.xr.c0
  have r1 := E.out.xr.c1
  have f0 := E.out.xr.f0
  have f1 := E.out.xr.f1
  go_wp2
  have Q := E.out.xr.put 0 none 0 0
  have y0 := Q.c0
  have y1 := Q.c1
  refine bodyPost_ret (v := .tuple #[.agg #[.int .i64 0, .slice none 0 0], .int .i64 1]) (by simp [results, Tryd.results62, go_sem, y0, y1]) rfl ?_
  exact ⟨none, 0, rfl, RdI.nil _ _, Nat.le_refl _, by omega, bel_set (bel_set E.out.below (by have := E.out.ge; show w.heap.size ≤ g + 1; omega) _) (by have := E.out.ge; show w.heap.size ≤ g + 1; omega) _, fun a h => by cases h⟩
set_option maxHeartbeats 4000000 in
theorem Start_arg (R : Int) (A : Option Addr) (n c : Nat) (cs : List Ins) (B : Option Addr) (m d : Nat) (zs : List Int) (w : World) (h : RdC w A n cs) (h' : RdI w B m zs) (hm : m ≤ 9223372036854775807) (hv : validM R cs = true) (hi : inputM R zs = false) :
    Calls Tryd.prog 62 #[.agg #[.int .i64 R, .slice A n c], .slice B m d] w (StP 0 [] 2 w) := by
  have E := Lib.hid (SM.start R A n c cs B m zs w h h')
  have HL := Lib.hid h'.len
  have HV := Lib.hid hv
  have hl0 := h'.len
  have HI := Lib.hid (fun (W : World) (r : RdI W B m zs) => inRange_c B m d zs 1000 W r hm)
  have HQ := Lib.hid (show ¬ (m : Int) = R ∨ ((m : Int) = R ∧ allIn 1000 zs = false) by
    by_cases e : (m : Int) = R
    · right
      unfold inputM at hi
      rw [hl0, decide_eq_true e, Bool.and_true] at hi
      exact ⟨e, hi⟩
    · exact .inl e)
  clear hv hi hl0
  clear h h'
  go_enter Tryd.func62, Tryd.ntmps62
  go_upto_region 1 with (fail)
  generalize (w.alloc (.cells #[.int .i64 R, .slice A n c] 43)).alloc (.cells #[.int .i64 0, .slice none 0 0] 46) = W0 at E ⊢
  generalize w.heap.size = g at E ⊢
  have m0 := E.out.bm.c0
  have m1 := E.out.bm.c1
  go_wp2_with fail
  refine (Valid_c R A n c cs _ E.out.rc).mono ?_
  rw [HV.out]
  rintro e w1 ⟨rfl, hb⟩
  replace E := Lib.hid (E.out.next hb)
  clear hb m0 m1
  rcases HQ.out with e | ⟨e, ha⟩
  · have t1 : ((m : Int) != R) = true := by rw [bne_iff_ne]; exact e
    clear HQ e
    have m0 := E.out.bm.c0
    have m1 := E.out.bm.c1
    have r0 := E.out.xr.c0
    have r1 := E.out.xr.c1
    have f0 := E.out.xr.f0
    have f1 := E.out.xr.f1
    go_wp2
    have Q := E.out.xr.put 0 none 0 0
    have y0 := Q.c0
    have y1 := Q.c1
    refine bodyPost_ret (v := .tuple #[.agg #[.int .i64 0, .slice none 0 0], .int .i64 2]) (by simp [results, Tryd.results62, go_sem, y0, y1]) rfl ?_
    exact ⟨none, 0, rfl, RdI.nil _ _, Nat.le_refl _, by omega, bel_set (bel_set E.out.below (by have := E.out.ge; show w.heap.size ≤ g + 1; omega) _) (by have := E.out.ge; show w.heap.size ≤ g + 1; omega) _, fun a h => by cases h⟩
  · have t1 : ((m : Int) != R) = false := by simp [e]
    have HA := Lib.hid ha
    clear HQ e ha
    have m0 := E.out.bm.c0
    have m1 := E.out.bm.c1
    go_wp2_with fail
    refine (HI.out _ E.out.ri).mono ?_
    rw [HA.out]
    rintro e w1 ⟨rfl, hb⟩
    replace E := Lib.hid (E.out.next hb)
    clear hb m0 m1
    have m0 := E.out.bm.c0
    have m1 := E.out.bm.c1
    have r0 := E.out.xr.c0
    have r1 := E.out.xr.c1
    have f0 := E.out.xr.f0
    have f1 := E.out.xr.f1
    go_wp2
    have Q := E.out.xr.put 0 none 0 0
    have y0 := Q.c0
    have y1 := Q.c1
    refine bodyPost_ret (v := .tuple #[.agg #[.int .i64 0, .slice none 0 0], .int .i64 2]) (by simp [results, Tryd.results62, go_sem, y0, y1]) rfl ?_
    exact ⟨none, 0, rfl, RdI.nil _ _, Nat.le_refl _, by omega, bel_set (bel_set E.out.below (by have := E.out.ge; show w.heap.size ≤ g + 1; omega) _) (by have := E.out.ge; show w.heap.size ≤ g + 1; omega) _, fun a h => by cases h⟩
set_option maxHeartbeats 4000000 in
theorem Start_ok (R : Int) (A : Option Addr) (n c : Nat) (cs : List Ins) (B : Option Addr) (m d : Nat) (zs : List Int) (w : World) (h : RdC w A n cs) (h' : RdI w B m zs) (hm : m ≤ 9223372036854775807) (hv : validM R cs = true) (hi : inputM R zs = true) :
    Calls Tryd.prog 62 #[.agg #[.int .i64 R, .slice A n c], .slice B m d] w (StP 0 zs 0 w) := by
  have E := Lib.hid (SM.start R A n c cs B m zs w h h')
  have HL := Lib.hid h'.len
  have HV := Lib.hid hv
  have hl0 := h'.len
  have HI := Lib.hid (fun (W : World) (r : RdI W B m zs) => inRange_c B m d zs 1000 W r hm)
  unfold inputM at hi
  rw [Bool.and_eq_true, decide_eq_true_eq, hl0] at hi
  obtain ⟨ha, e⟩ := hi
  have HB := Lib.hid (show 1 ≤ R ∧ R ≤ 4 by
    unfold validM at hv
    rw [Bool.and_eq_true, decide_eq_true_eq] at hv
    exact ⟨hv.1.1, hv.1.2.1⟩)
  have HE := Lib.hid e
  have HA := Lib.hid ha
  have t1 : ((m : Int) != R) = false := by simp [e]
  clear hv hl0 ha e
  clear h h'
  go_enter Tryd.func62, Tryd.ntmps62
  go_upto_region 1 with (fail)
  generalize (w.alloc (.cells #[.int .i64 R, .slice A n c] 43)).alloc (.cells #[.int .i64 0, .slice none 0 0] 46) = W0 at E ⊢
  generalize w.heap.size = g at E ⊢
  have m0 := E.out.bm.c0
  have m1 := E.out.bm.c1
  go_wp2_with fail
  refine (Valid_c R A n c cs _ E.out.rc).mono ?_
  rw [HV.out]
  rintro e w1 ⟨rfl, hb⟩
  replace E := Lib.hid (E.out.next hb)
  clear hb m0 m1
  have m0 := E.out.bm.c0
  have m1 := E.out.bm.c1
  go_wp2_with fail
  refine (HI.out _ E.out.ri).mono ?_
  rw [HA.out]
  rintro e w1 ⟨rfl, hb⟩
  replace E := Lib.hid (E.out.next hb)
  clear hb m0 m1
  have m0 := E.out.bm.c0
  have m1 := E.out.bm.c1
  go_wp2_with fail
  refine (clone_i B m d zs _ E.out.ri (by have := HB.out; have := HE.out; omega) (by have := HB.out; have := HE.out; omega)).mono ?_
  rintro e w1 ⟨gr, cr, rfl, h1, h2, h3, h4, hb⟩
  have hgr : g + 1 < gr := Nat.lt_of_lt_of_le E.out.xr.lt h2
  have HGR := Lib.hid hgr
  have O1 := Lib.hid h1
  have H34 := Lib.hid (And.intro h3 h4)
  replace E := Lib.hid (E.out.next hb)
  clear hb h1 h2 h3 h4 hgr m0 m1
  have r0 := E.out.xr.c0
  have r1 := E.out.xr.c1
  have f0 := E.out.xr.f0
  have f1 := E.out.xr.f1
  go_wp2
  have Q := E.out.xr.put 0 (some ⟨gr, 0, none⟩) zs.length cr
  have y0 := Q.c0
  have y1 := Q.c1
  refine bodyPost_ret (v := .tuple #[.agg #[.int .i64 0, .slice (some ⟨gr, 0, none⟩) zs.length cr], .int .i64 0]) (by simp [results, Tryd.results62, go_sem, y0, y1]) rfl ?_
  have hne : gr ≠ g + 1 := by have := HGR.out; omega
  exact ⟨some ⟨gr, 0, none⟩, cr, rfl, ((O1.out.far hne _).far hne _).rd, H34.out.1, H34.out.2, bel_set (bel_set E.out.below (by have := E.out.ge; show w.heap.size ≤ g + 1; omega) _) (by have := E.out.ge; show w.heap.size ≤ g + 1; omega) _, fun a h => by injection h with h; subst h; show w.heap.size ≤ gr; have h1 := HGR.out; have h2 := E.out.ge; omega⟩
set_option maxHeartbeats 4000000 in
/-- the reference's Start -/
theorem refStart_c (B : Option Addr) (m d : Nat) (zs : List Int) (w : World) (h' : RdI w B m zs) (h0 : 0 < m) (hm : m ≤ 17592186044416) :
    Calls Tryd.prog 64 #[.slice B m d] w (NewS 0 zs w) := by
  have hb := bel_alloc w (.cells #[.int .i64 0, .slice none 0 0] 46)
  have P := Lib.hid hb
  have Xr := Lib.hid (BxS.new w 0 none 0 0)
  have HC := Lib.hid (copy_s 0 B m d zs _ (h'.below hb) h0 hm)
  clear h' hb
  go_enter Tryd.func64, Tryd.ntmps64
  go_wp2_with fail
  generalize w.alloc (.cells #[.int .i64 0, .slice none 0 0] 46) = W0 at P Xr HC ⊢
  refine HC.out.mono ?_
  rintro e w1 ⟨gr, cr, rfl, h1, h2, h3, h4, hb⟩
  have HGR := Lib.hid (show w.heap.size < gr from Nat.lt_of_lt_of_le Xr.out.lt h2)
  have O1 := Lib.hid h1
  have H34 := Lib.hid (And.intro h3 h4)
  replace Xr := Lib.hid (Xr.out.next hb)
  replace P := Lib.hid (P.out.trans (hb.mono P.out.size))
  clear hb h1 h2 h3 h4 HC
  have r0 := Xr.out.c0
  have r1 := Xr.out.c1
  have f0 := Xr.out.f0
  have f1 := Xr.out.f1
  go_wp2
  have Q := Xr.out.put 0 (some ⟨gr, 0, none⟩) zs.length cr
  have y0 := Q.c0
  have y1 := Q.c1
  refine bodyPost_ret (v := .agg #[.int .i64 0, .slice (some ⟨gr, 0, none⟩) zs.length cr]) (by simp [results, Tryd.results64, go_sem, y0, y1]) rfl ?_
  have hne : gr ≠ w.heap.size := by have := HGR.out; omega
  exact ⟨gr, cr, rfl, (O1.out.far hne _).far hne _, Nat.le_of_lt HGR.out, H34.out.1, H34.out.2, bel_set (bel_set P.out (Nat.le_refl _) _) (Nat.le_refl _) _⟩
end Go.Proofs.YthjdnidapbhdlaaDoor

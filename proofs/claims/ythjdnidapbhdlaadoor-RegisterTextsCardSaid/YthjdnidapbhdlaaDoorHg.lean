/- states that fit, of both sides; the first state -/
import Derived.Test.YthjdnidapbhdlaaDoorHd
import Derived.Test.YthjdnidapbhdlaaDoorHf
set_option maxRecDepth 100000
namespace Go.Proofs.YthjdnidapbhdlaaDoor
open Go.RowKit
def fitsM (R : Int) (cs : List Ins) (at_ : Int) (zs : List Int) : Bool :=
  validM R cs && inB cs.length at_ && decide ((zs.length : Int) = R) && allIn 1099511627776 zs
/-- a machine and a state: their variables and what they read -/
structure MS (w W : World) (g : Nat) (R : Int) (A : Option Addr) (n c : Nat) (cs : List Ins) (at_ : Int) (B : Option Addr) (m d : Nat) (zs : List Int) : Prop where
  below : Below w.heap.size w W
  ge : w.heap.size ≤ g
  bm : BoxM W g R A n c
  bs : BxS W (g + 1) at_ B m d
  rc : RdC W A n cs
  ri : RdI W B m zs
theorem MS.next {w W W' : World} {g : Nat} {R : Int} {A : Option Addr} {n c : Nat} {cs : List Ins} {at_ : Int} {B : Option Addr} {m d : Nat} {zs : List Int} (h : MS w W g R A n c cs at_ B m d zs) (hb : Below W.heap.size W W') : MS w W' g R A n c cs at_ B m d zs :=
  ⟨h.below.trans (hb.mono h.below.size), h.ge, h.bm.next hb, h.bs.next hb, h.rc.below hb, h.ri.below hb⟩
theorem MS.start (R : Int) (A : Option Addr) (n c : Nat) (cs : List Ins) (at_ : Int) (B : Option Addr) (m d : Nat) (zs : List Int) (w : World) (h : RdC w A n cs) (h' : RdI w B m zs) :
    MS w ((w.alloc (.cells #[.int .i64 R, .slice A n c] 43)).alloc (.cells #[.int .i64 at_, .slice B m d] 46)) w.heap.size R A n c cs at_ B m d zs := by
  have k0 := bel_alloc w (.cells #[.int .i64 R, .slice A n c] 43)
  have k1 := bel_alloc (w.alloc (.cells #[.int .i64 R, .slice A n c] 43)) (.cells #[.int .i64 at_, .slice B m d] 46)
  have b1 := BxS.new (w.alloc (.cells #[.int .i64 R, .slice A n c] 43)) at_ B m d
  rw [World.size_alloc] at b1
  exact ⟨k0.trans (k1.mono k0.size), Nat.le_refl _, (BoxM.new w R A n c).next k1, b1, (h.below k0).below k1, (h'.below k0).below k1⟩
theorem beq_dec (a b : Int) : (a == b) = decide (a = b) := rfl
set_option maxHeartbeats 4000000 in
theorem Fits_c (R : Int) (A : Option Addr) (n c : Nat) (cs : List Ins) (at_ : Int) (B : Option Addr) (m d : Nat) (zs : List Int) (w : World) (h : RdC w A n cs) (h' : RdI w B m zs) (hm : m ≤ 9223372036854775807) :
    Calls Tryd.prog 25 #[.agg #[.int .i64 R, .slice A n c], .agg #[.int .i64 at_, .slice B m d]] w (RetB (fitsM R cs at_ zs) w) := by
  have E := Lib.hid (MS.start R A n c cs at_ B m d zs w h h')
  have HL := Lib.hid (And.intro h.len h'.len)
  obtain ⟨v1, hv1⟩ : ∃ v, v = validM R cs := ⟨_, rfl⟩
  obtain ⟨v2, hv2⟩ : ∃ v, v = inB n at_ := ⟨_, rfl⟩
  obtain ⟨v4, hv4⟩ : ∃ v, v = allIn 1099511627776 zs := ⟨_, rfl⟩
  have HV := Lib.hid (show fitsM R cs at_ zs = (v1 && v2 && decide ((m : Int) = R) && v4) by unfold fitsM; rw [hv1, hv2, hv4, h.len, h'.len])
  have H1 := Lib.hid (fun (W : World) (r : RdC W A n cs) => Valid_c R A n c cs W r)
  have H2 := Lib.hid (fun (W : World) => isIndex_c R A n c at_ W)
  have H4 := Lib.hid (fun (W : World) (r : RdI W B m zs) => inRange_c B m d zs 1099511627776 W r hm)
  rw [← hv1] at H1
  rw [← hv2] at H2
  rw [← hv4] at H4
  clear h h' hv1 hv2 hv4
  go_enter Tryd.func25, Tryd.ntmps25
  go_upto_region 1 with (fail)
  generalize (w.alloc (.cells #[.int .i64 R, .slice A n c] 43)).alloc (.cells #[.int .i64 at_, .slice B m d] 46) = W0 at E ⊢
  generalize w.heap.size = g at E ⊢
  have m0 := E.out.bm.c0
  have m1 := E.out.bm.c1
  have s0 := E.out.bs.c0
  have s1 := E.out.bs.c1
  go_wp2_with fail
  refine (H1.out _ E.out.rc).mono ?_
  rintro e w1 ⟨rfl, hb⟩
  replace E := Lib.hid (E.out.next hb)
  clear hb m0 m1 s0 s1
  have m0 := E.out.bm.c0
  have m1 := E.out.bm.c1
  have s0 := E.out.bs.c0
  have s1 := E.out.bs.c1
  cases v1 with
  | false =>
    go_wp2
    go_ret
    exact ⟨by rw [HV.out]; first | rfl | simp, E.out.below⟩
  | true =>
    go_wp2_with fail
    refine (H2.out _).mono ?_
    rintro e w1 ⟨rfl, hb⟩
    replace E := Lib.hid (E.out.next hb)
    clear hb m0 m1 s0 s1
    have m0 := E.out.bm.c0
    have m1 := E.out.bm.c1
    have s0 := E.out.bs.c0
    have s1 := E.out.bs.c1
    cases v2 with
    | false =>
      go_wp2
      go_ret
      exact ⟨by rw [HV.out]; first | rfl | simp, E.out.below⟩
    | true =>
      by_cases hR : (m : Int) = R
      · have t1 : ((m : Int) == R) = true := beq_iff_eq.2 hR
        have HR := Lib.hid (decide_eq_true hR)
        rw [HR.out] at HV
        clear hR
        go_wp2_with fail
        refine (H4.out _ E.out.ri).mono ?_
        rintro e w1 ⟨rfl, hb⟩
        replace E := Lib.hid (E.out.next hb)
        clear hb m0 m1 s0 s1
        have m0 := E.out.bm.c0
        have m1 := E.out.bm.c1
        have s0 := E.out.bs.c0
        have s1 := E.out.bs.c1
        cases v4 <;>
        · go_wp2
          go_ret
          exact ⟨by rw [HV.out]; rfl, E.out.below⟩
      · have t1 : ((m : Int) == R) = false := beq_eq_false_iff_ne.2 hR
        have HR := Lib.hid (decide_eq_false hR)
        rw [HR.out] at HV
        clear hR
        go_wp2
        go_ret
        exact ⟨by rw [HV.out]; rfl, E.out.below⟩
set_option maxHeartbeats 8000000 in
theorem refFits_c (R : Int) (A : Option Addr) (n c : Nat) (cs : List Ins) (at_ : Int) (B : Option Addr) (m d : Nat) (zs : List Int) (w : World) (h : RdC w A n cs) (h' : RdI w B m zs) (hm : m ≤ 9223372036854775807) :
    Calls Tryd.prog 26 #[.agg #[.int .i64 R, .slice A n c], .agg #[.int .i64 at_, .slice B m d]] w (RetB (fitsM R cs at_ zs) w) := by
  have E := Lib.hid (MS.start R A n c cs at_ B m d zs w h h')
  have HL := Lib.hid (And.intro h.len h'.len)
  obtain ⟨v1, hv1⟩ : ∃ v, v = validM R cs := ⟨_, rfl⟩
  have HV := Lib.hid (show fitsM R cs at_ zs = (v1 && inB n at_ && decide ((m : Int) = R) && allIn 1099511627776 zs) by unfold fitsM; rw [hv1, h.len, h'.len])
  have H1 := Lib.hid (fun (W : World) (r : RdC W A n cs) => refValid13_c R A n c cs W r)
  rw [← hv1] at H1
  clear h h' hv1
  go_enter Tryd.func26, Tryd.ntmps26
  go_upto_region 1 with (fail)
  generalize (w.alloc (.cells #[.int .i64 R, .slice A n c] 43)).alloc (.cells #[.int .i64 at_, .slice B m d] 46) = W0 at E ⊢
  generalize w.heap.size = g at E ⊢
  have m0 := E.out.bm.c0
  have m1 := E.out.bm.c1
  have s0 := E.out.bs.c0
  have s1 := E.out.bs.c1
  go_wp2_with fail
  refine (H1.out _ E.out.rc).mono ?_
  rintro e w1 ⟨rfl, hb⟩
  replace E := Lib.hid (E.out.next hb)
  clear hb m0 m1 s0 s1
  have m0 := E.out.bm.c0
  have m1 := E.out.bm.c1
  have s0 := E.out.bs.c0
  have s1 := E.out.bs.c1
  cases v1 with
  | false =>
    go_wp2
    go_ret
    exact ⟨by rw [HV.out]; rfl, E.out.below⟩
  | true =>
    by_cases h1 : 0 ≤ at_ ∧ at_ < (n : Int) ∧ (m : Int) = R
    · have HV2 := Lib.hid (show fitsM R cs at_ zs = allIn 1099511627776 zs by rw [HV.out]; simp [inB, h1])
      obtain ⟨q1, q2, q3⟩ := h1
      have t1 : decide (at_ < 0) = false := decide_eq_false (by omega)
      have t2 : decide ((n : Int) ≤ at_) = false := decide_eq_false (by omega)
      have t3 : ((m : Int) != R) = false := by simp [q3]
      clear q3
      go_wp2
      go_loopw [5] (fun v wr => ∃ k : Nat, v = .int .i64 (k : Int) ∧ k ≤ m ∧ MS w wr g R A n c cs at_ B m d zs ∧ ∀ i, i < k → inR 1099511627776 (zs.getD i 0) = true) (fun v _ => m - (intOf v).toNat)
      case atStart => exact ⟨0, rfl, Nat.zero_le _, E.out, fun i hi => by omega⟩
      case round =>
        obtain ⟨k, rfl, hk, hE, hv⟩ := hrel
        clear E m0 m1 s0 s1 t1 t2 t3
        have E := Lib.hid hE
        have HA := Lib.hid hv
        clear hE hv
        have s0 := E.out.bs.c0
        have s1 := E.out.bs.c1
        by_cases hkn : k < m
        · obtain ⟨b, o, rfl, hblt, hcell⟩ := E.out.ri.at_ (by omega)
          have c0 := hcell k hkn
          obtain ⟨z, hz⟩ : ∃ z, z = zs.getD k 0 := ⟨_, rfl⟩
          rw [← hz] at c0
          have HZ := Lib.hid hz
          have HF := Lib.hid (fun (hf : inR 1099511627776 z = false) => show fitsM R cs at_ zs = false by
            rw [HV2.out]
            unfold allIn
            exact decide_eq_false (fun hh => by
              have := hh k (by rw [HL.out.2]; exact hkn)
              rw [← HZ.out, hf] at this
              cases this))
          clear hz hcell hblt
          go_wp2
          all_goals first
            | (go_ret; exact ⟨by rw [HF.out (by simp [inR]; omega)]; rfl, E.out.below⟩)
            | (go_roundw; (case measure => simp [intOf]; omega); (case rel => exact ⟨k + 1, by go_num, by omega, E.out, fun i hi => by
                by_cases e : i = k
                · subst e; rw [← HZ.out]; simp [inR]; omega
                · exact HA.out i (by omega)⟩))
            | fail "no arm"
        · have HF := Lib.hid (show fitsM R cs at_ zs = true by rw [HV2.out]; exact decide_eq_true fun i hi => HA.out i (by rw [HL.out.2] at hi; omega))
          go_wp2
          go_ret
          exact ⟨by rw [HF.out]; rfl, E.out.below⟩
    · have HF := Lib.hid (show fitsM R cs at_ zs = false by
        rw [HV.out]
        by_cases q1 : inB n at_ = true
        · have q2 : ¬ (m : Int) = R := fun e => h1 (by simp [inB] at q1; exact ⟨q1.1, q1.2, e⟩)
          rw [decide_eq_false q2]; simp
        · simp only [Bool.not_eq_true] at q1
          rw [q1]; rfl)
      by_cases q1 : at_ < 0
      · have t1 : decide (at_ < 0) = true := decide_eq_true q1
        go_wp2
        go_ret
        exact ⟨by rw [HF.out]; rfl, E.out.below⟩
      · have t1 : decide (at_ < 0) = false := decide_eq_false q1
        by_cases q2 : (n : Int) ≤ at_
        · have t2 : decide ((n : Int) ≤ at_) = true := decide_eq_true q2
          go_wp2
          go_ret
          exact ⟨by rw [HF.out]; rfl, E.out.below⟩
        · have t2 : decide ((n : Int) ≤ at_) = false := decide_eq_false q2
          have t3 : ((m : Int) != R) = true := by rw [bne_iff_ne]; omega
          go_wp2
          go_ret
          exact ⟨by rw [HF.out]; rfl, E.out.below⟩
end Go.Proofs.YthjdnidapbhdlaaDoor
